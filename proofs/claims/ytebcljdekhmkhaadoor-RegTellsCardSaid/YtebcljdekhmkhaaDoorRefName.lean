/-
  The document's name of a register.
-/
import Derived.Test.YtebcljdekhmkhaaDoorRegRef
import Derived.Test.YtebcljdekhmkhaaDoorName
namespace Go.Proofs.YtebcljdekhmkhaaDoor
open Go.RowKit

/-! ### numerals -/
def decS (n : Nat) : ByteArray := ⟨(Lib.decDigits n).toArray⟩
theorem decS_fin : ∀ n : Fin 100, nums (decS n.val) = dec2 (n.val : Int) ∧ (decS n.val).size ≤ 2 := by decide +kernel
theorem decS_ok (k : Nat) (h : k < 100) : nums (decS k) = dec2 (k : Int) ∧ (decS k).size ≤ 2 := decS_fin ⟨k, h⟩
theorem itoa_any (n : Nat) (h : n < 100) (w : World) :
    Calls Tryd.prog 30 #[.int .i64 n] w fun e w' => e = .returned (.string (decS n)) ∧ w' = w := by
  have c1 : ∀ w, Calls Tryd.prog 43 #[.int .i64 n] w fun e w' => e = .returned (.string (decS n)) ∧ w' = w := fun w => Tryd.internal_strconv_small n h w
  have C1 := hid c1
  have h0 : (0 : Int) ≤ (n : Int) := by omega
  have h1 : (n : Int) < 100 := by omega
  have c2 : ∀ w, Calls Tryd.prog 41 #[.int .i64 n, .int .i64 10] w fun e w' => e = .returned (.string (decS n)) ∧ w' = w := fun w => by
    clear c1
    go_enter Tryd.func41, Tryd.ntmps41
    go_wp2_with (go_at_call 43; refine (C1.out _).mono ?_; rintro e w1 ⟨rfl, rfl⟩)
    go_ret
    exact ⟨rfl, rfl⟩
  have C2 := hid c2
  have c3 : ∀ w, Calls Tryd.prog 37 #[.int .i64 n] w fun e w' => e = .returned (.string (decS n)) ∧ w' = w := fun w => by
    clear c1 c2
    go_enter Tryd.func37, Tryd.ntmps37
    go_wp2_with (go_at_call 41; refine (C2.out _).mono ?_; rintro e w1 ⟨rfl, rfl⟩)
    go_ret
    exact ⟨rfl, rfl⟩
  have C3 := hid c3
  clear c1 c2 c3
  go_enter Tryd.func30, Tryd.ntmps30
  go_wp2_with (go_at_call 37; refine (C3.out _).mono ?_; rintro e w1 ⟨rfl, rfl⟩)
  go_ret
  exact ⟨rfl, rfl⟩
/-! ### the first eight -/
theorem old_any (n : Int) (h0 : 0 ≤ n) (h7 : n ≤ 7) (w : World) :
    Calls Tryd.prog 33 #[.int .i64 n] w fun e w' => ∃ T : ByteArray, e = .returned (.string T) ∧ nums T = old8[n.toNat]?.getD [] ∧ T.size ≤ 3 ∧ w' = w := by
  rcases (show n = 0 ∨ n = 1 ∨ n = 2 ∨ n = 3 ∨ n = 4 ∨ n = 5 ∨ n = 6 ∨ n = 7 by omega) with rfl | rfl | rfl | rfl | rfl | rfl | rfl | rfl
  all_goals
    go_enter Tryd.func33, Tryd.ntmps33
    go_wp2
    go_ret
    exact ⟨_, rfl, by decide +kernel, by decide +kernel, rfl⟩
theorem byte8_any (n : Int) (h0 : 0 ≤ n) (h7 : n ≤ 7) (w : World) :
    Calls Tryd.prog 32 #[.int .i64 n] w fun e w' => ∃ T : ByteArray, e = .returned (.string T) ∧ nums T = (NM 1)[n.toNat]?.getD [] ∧ w' = w := by
  by_cases h4 : n < 4
  · rcases (show n = 0 ∨ n = 1 ∨ n = 2 ∨ n = 3 by omega) with rfl | rfl | rfl | rfl
    all_goals
      go_enter Tryd.func32, Tryd.ntmps32
      go_wp2
      go_ret
      exact ⟨_, rfl, by decide +kernel, rfl⟩
  · have HQ := hid (show ∀ T : ByteArray, nums T = old8[n.toNat]?.getD [] → nums (T ++ ⟨#[108]⟩) = (NM 1)[n.toNat]?.getD [] by
      intro T hT
      rw [nums_append, hT]
      rcases (show n = 4 ∨ n = 5 ∨ n = 6 ∨ n = 7 by omega) with rfl | rfl | rfl | rfl
      all_goals decide +kernel)
    go_enter Tryd.func32, Tryd.ntmps32
    go_wp2_with (go_at_call 33; refine (old_any _ h0 h7 _).mono ?_; rintro e w1 ⟨T, rfl, hT, hz, rfl⟩; have HT := hid hT; clear hT)
    go_ret
    exact ⟨_, rfl, HQ.out T HT.out, rfl⟩
def tailF (c : Int) : List Int := if c = 1 then [98] else if c = 3 then [119] else if c = 4 then [100] else []
def tailS (c : Int) : ByteArray := if c = 1 then ⟨#[98]⟩ else if c = 3 then ⟨#[119]⟩ else if c = 4 then ⟨#[100]⟩ else ⟨#[]⟩
theorem tail_any (c : Int) (w : World) :
    Calls Tryd.prog 31 #[.int .i64 c] w fun e w' => e = .returned (.string (tailS c)) ∧ w' = w := by
  go_enter Tryd.func31, Tryd.ntmps31
  go_wp2
  all_goals
    go_ret
    exact ⟨by unfold tailS; simp_all, rfl⟩
theorem tailS_nums (c : Int) : nums (tailS c) = tailF c ∧ (tailS c).size ≤ 1 := by
  unfold tailS tailF
  (repeat' split) <;> decide

/-! ### the names, piece by piece -/
theorem name6 : ∀ k : Fin 16, nameF 6 (k.val : Int) = [120, 109, 109] ++ dec2 (k.val : Int) ∧ nameF 7 (k.val : Int) = [121, 109, 109] ++ dec2 (k.val : Int) := by decide +kernel
theorem name_high : ∀ c ∈ [1, 3, 4, 5], ∀ k : Fin 16, 8 ≤ k.val → nameF c (k.val : Int) = [114] ++ dec2 (k.val : Int) ++ tailF c := by decide +kernel
theorem name_low : ∀ k : Fin 8, nameF 1 (k.val : Int) = (NM 1)[k.val]?.getD [] ∧ nameF 3 (k.val : Int) = old8[k.val]?.getD [] ∧ nameF 4 (k.val : Int) = [101] ++ old8[k.val]?.getD [] ∧ nameF 5 (k.val : Int) = [114] ++ old8[k.val]?.getD [] := by decide +kernel
theorem name6_ok (k : Nat) (h : k < 16) : nameF 6 (k : Int) = [120, 109, 109] ++ dec2 (k : Int) ∧ nameF 7 (k : Int) = [121, 109, 109] ++ dec2 (k : Int) := name6 ⟨k, h⟩
theorem name_high_ok (c : Int) (hc : c ∈ [1, 3, 4, 5]) (k : Nat) (h : k < 16) (h8 : 8 ≤ k) : nameF c (k : Int) = [114] ++ dec2 (k : Int) ++ tailF c := name_high c hc ⟨k, h⟩ h8
theorem name_low_ok (k : Nat) (h : k < 8) : nameF 1 (k : Int) = (NM 1)[k]?.getD [] ∧ nameF 3 (k : Int) = old8[k]?.getD [] ∧ nameF 4 (k : Int) = [101] ++ old8[k]?.getD [] ∧ nameF 5 (k : Int) = [114] ++ old8[k]?.getD [] := name_low ⟨k, h⟩
theorem valid_span {c a b n : Int} (hs : spanF c = (a, b)) (h : validF c n = true) : a ≤ n ∧ n < a + b := by
  unfold validF at h; rw [hs] at h; simpa using h
set_option maxHeartbeats 1000000 in
theorem rname_none (c n : Int) (w : World) (hv : validF c n = false) :
    Calls Tryd.prog 10 #[.agg #[.int .i64 c, .int .i64 n]] w fun e w' => ∃ T : ByteArray, e = .returned (.string T) ∧ nums T = nameF c n ∧ Below w.heap.size w w' := by
  have HV := hid hv
  clear hv
  go_enter Tryd.func10, Tryd.ntmps10
  go_wp2_with (go_at_call 8; refine (rvalid_of HV.out _).mono ?_; rintro e w1 ⟨rfl, hb1⟩; obtain ⟨hc1, hf1⟩ := bcell hb1; have hz1 : w.heap.size < w1.heap.size := by have := hb1.size; simp at this; omega)
  go_ret
  exact ⟨_, rfl, by simp [nameF, HV.out, nums], ((Below.refl _ _).alloc (Nat.le_refl _) _).trans (hb1.mono (by simp))⟩
set_option maxHeartbeats 1000000 in
theorem rname_rip (n : Int) (w : World) (hv : validF 8 n = true) :
    Calls Tryd.prog 10 #[.agg #[.int .i64 8, .int .i64 n]] w fun e w' => ∃ T : ByteArray, e = .returned (.string T) ∧ nums T = nameF 8 n ∧ Below w.heap.size w w' := by
  have hn := valid_span (show spanF 8 = (0, 1) from rfl) hv
  obtain rfl : n = 0 := by omega
  have HV := hid hv
  clear hv hn
  go_enter Tryd.func10, Tryd.ntmps10
  go_wp2_with (go_at_call 8; refine (rvalid_of HV.out _).mono ?_; rintro e w1 ⟨rfl, hb1⟩; obtain ⟨hc1, hf1⟩ := bcell hb1; have hz1 : w.heap.size < w1.heap.size := by have := hb1.size; simp at this; omega)
  go_ret
  exact ⟨_, rfl, by decide +kernel, ((Below.refl _ _).alloc (Nat.le_refl _) _).trans (hb1.mono (by simp))⟩
set_option maxHeartbeats 1000000 in
theorem rname_h (n : Int) (w : World) (hv : validF 2 n = true) :
    Calls Tryd.prog 10 #[.agg #[.int .i64 2, .int .i64 n]] w fun e w' => ∃ T : ByteArray, e = .returned (.string T) ∧ nums T = nameF 2 n ∧ Below w.heap.size w w' := by
  have hn := valid_span (show spanF 2 = (4, 4) from rfl) hv
  rcases (show n = 4 ∨ n = 5 ∨ n = 6 ∨ n = 7 by omega) with rfl | rfl | rfl | rfl
  all_goals
    have HV := hid hv
    clear hv hn
    go_enter Tryd.func10, Tryd.ntmps10
    go_wp2_with (go_at_call 8; refine (rvalid_of HV.out _).mono ?_; rintro e w1 ⟨rfl, hb1⟩; obtain ⟨hc1, hf1⟩ := bcell hb1; have hz1 : w.heap.size < w1.heap.size := by have := hb1.size; simp at this; omega)
    go_ret
    exact ⟨_, rfl, by decide +kernel, ((Below.refl _ _).alloc (Nat.le_refl _) _).trans (hb1.mono (by simp))⟩
set_option maxHeartbeats 1000000 in
theorem rname_xy (c n : Int) (w : World) (hc : c = 6 ∨ c = 7) (hv : validF c n = true) :
    Calls Tryd.prog 10 #[.agg #[.int .i64 c, .int .i64 n]] w fun e w' => ∃ T : ByteArray, e = .returned (.string T) ∧ nums T = nameF c n ∧ Below w.heap.size w w' := by
  have hn := validF_n hv
  obtain ⟨k, rfl⟩ := Int.eq_ofNat_of_zero_le hn.1
  have hk : k < 16 := by omega
  have hz := (decS_ok k (by omega)).2
  have HD := hid (decS_ok k (by omega)).1
  have HN := hid (name6_ok k hk)
  have HV := hid hv
  clear hv hn
  rcases hc with rfl | rfl
  all_goals
    go_enter Tryd.func10, Tryd.ntmps10
    go_wp2_with (first | (go_at_call 8; refine (rvalid_of HV.out _).mono ?_; rintro e w1 ⟨rfl, hb1⟩; obtain ⟨hc1, hf1⟩ := bcell hb1; have hz1 : w.heap.size < w1.heap.size := by have := hb1.size; simp at this; omega) | (go_at_call 30; refine (itoa_any _ (by omega) _).mono ?_; rintro e w2 ⟨rfl, rfl⟩))
    go_ret
    exact ⟨_, rfl, by first | (rw [HN.out.1, nums_append, HD.out]; rfl) | (rw [HN.out.2, nums_append, HD.out]; rfl), ((Below.refl _ _).alloc (Nat.le_refl _) _).trans (hb1.mono (by simp))⟩
set_option maxHeartbeats 2000000 in
theorem rname_high (c n : Int) (w : World) (hc : c = 1 ∨ c = 3 ∨ c = 4 ∨ c = 5) (hv : validF c n = true) (h8 : 7 < n) :
    Calls Tryd.prog 10 #[.agg #[.int .i64 c, .int .i64 n]] w fun e w' => ∃ T : ByteArray, e = .returned (.string T) ∧ nums T = nameF c n ∧ Below w.heap.size w w' := by
  have hn := validF_n hv
  obtain ⟨k, rfl⟩ := Int.eq_ofNat_of_zero_le hn.1
  have hz := (decS_ok k (by omega)).2
  have ht := (tailS_nums c).2
  have HN := hid (show nums (⟨#[114]⟩ ++ decS k ++ tailS c) = nameF c (k : Int) by
    rw [nums_append, nums_append, (decS_ok k (by omega)).1, (tailS_nums c).1, name_high_ok c (by simpa using hc) k (by omega) (by omega)]; rfl)
  have HK := hid (show k < 100 by omega)
  have HV := hid hv
  clear hv hn
  rcases hc with rfl | rfl | rfl | rfl
  all_goals
    go_enter Tryd.func10, Tryd.ntmps10
    go_wp2_with (first | (go_at_call 8; refine (rvalid_of HV.out _).mono ?_; rintro e w1 ⟨rfl, hb1⟩; obtain ⟨hc1, hf1⟩ := bcell hb1; have hz1 : w.heap.size < w1.heap.size := by have := hb1.size; simp at this; omega))
    have q0 := hc1 w.heap.size 0 (by simp)
    have q1 := hc1 w.heap.size 1 (by simp)
    simp at q0 q1
    go_quiet (first | (go_at_call 30; exact Calls.quiet_of_same (itoa_any _ HK.out _)) | (go_at_call 31; exact Calls.quiet_of_same (tail_any _ _)))
    go_wp2
    go_ret
    exact ⟨_, rfl, HN.out, bdrewN (((Below.refl _ _).alloc (Nat.le_refl _) _).trans (hb1.mono (by simp))) _⟩
set_option maxHeartbeats 2000000 in
theorem rname_low (c n : Int) (w : World) (hc : c = 1 ∨ c = 3 ∨ c = 4 ∨ c = 5) (hv : validF c n = true) (h8 : ¬ 7 < n) :
    Calls Tryd.prog 10 #[.agg #[.int .i64 c, .int .i64 n]] w fun e w' => ∃ T : ByteArray, e = .returned (.string T) ∧ nums T = nameF c n ∧ Below w.heap.size w w' := by
  have hn := validF_n hv
  obtain ⟨k, rfl⟩ := Int.eq_ofNat_of_zero_le hn.1
  have h0 : (0 : Int) ≤ (k : Int) := by omega
  have h7 : (k : Int) ≤ 7 := by omega
  have HN := hid (name_low_ok k (by omega))
  have HV := hid hv
  clear hv hn
  rcases hc with rfl | rfl | rfl | rfl
  all_goals
    go_enter Tryd.func10, Tryd.ntmps10
    go_wp2_with (first | (go_at_call 8; refine (rvalid_of HV.out _).mono ?_; rintro e w1 ⟨rfl, hb1⟩; obtain ⟨hc1, hf1⟩ := bcell hb1; have hz1 : w.heap.size < w1.heap.size := by have := hb1.size; simp at this; omega) | (go_at_call 32; refine (byte8_any _ h0 h7 _).mono ?_; rintro e w2 ⟨T, rfl, hT, rfl⟩; have HT := hid hT; clear hT) | (go_at_call 33; refine (old_any _ h0 h7 _).mono ?_; rintro e w2 ⟨T, rfl, hT, hz, rfl⟩; have HT := hid hT; clear hT))
    go_ret
    refine ⟨_, rfl, ?_, ((Below.refl _ _).alloc (Nat.le_refl _) _).trans (hb1.mono (by simp))⟩
    first
      | (rw [HN.out.1]; exact HT.out)
      | (rw [HN.out.2.1]; exact HT.out)
      | (rw [HN.out.2.2.1, nums_append, HT.out]; rfl)
      | (rw [HN.out.2.2.2, nums_append, HT.out]; rfl)
theorem rname_any (c n : Int) (w : World) :
    Calls Tryd.prog 10 #[.agg #[.int .i64 c, .int .i64 n]] w fun e w' => ∃ T : ByteArray, e = .returned (.string T) ∧ nums T = nameF c n ∧ Below w.heap.size w w' := by
  cases hv : validF c n
  · exact rname_none c n w hv
  · rcases classes c with rfl | rfl | rfl | rfl | rfl | rfl | rfl | rfl | h
    · by_cases h8 : 7 < n
      · exact rname_high 1 n w (by simp) hv h8
      · exact rname_low 1 n w (by simp) hv h8
    · exact rname_h n w hv
    · by_cases h8 : 7 < n
      · exact rname_high 3 n w (by simp) hv h8
      · exact rname_low 3 n w (by simp) hv h8
    · by_cases h8 : 7 < n
      · exact rname_high 4 n w (by simp) hv h8
      · exact rname_low 4 n w (by simp) hv h8
    · by_cases h8 : 7 < n
      · exact rname_high 5 n w (by simp) hv h8
      · exact rname_low 5 n w (by simp) hv h8
    · exact rname_xy 6 n w (by simp) hv
    · exact rname_xy 7 n w (by simp) hv
    · exact rname_rip n w hv
    · exfalso
      simp [validF, span_none h] at hv
      omega
end Go.Proofs.YtebcljdekhmkhaaDoor
