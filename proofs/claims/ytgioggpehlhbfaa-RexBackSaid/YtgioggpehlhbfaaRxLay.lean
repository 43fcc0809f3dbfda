/-
  Lay: prefixes as bytes; the program's and the document's.
-/
import Derived.Test.YtgioggpehlhbfaaRxReadAll
namespace Go.Proofs.Ytgioggpehlhbfaa
open Go.RowKit
set_option maxRecDepth 100000

/-- Prefixes as bytes. -/
def preB (pre : Int) : List Int := addF pre [1] [102] ++ addF pre [2, 4] [242, 243]
def rexB (rex : Int) : List Int := if rex < 0 then [] else [64 + rex]
def layE (pre rex : Int) : Int := if validF pre then (if rex == -1 || isF rex then 0 else 5) else 2
def layB (pre rex : Int) : List Int := if layE pre rex = 0 then preB pre ++ rexB rex else []
theorem preB_all : preB 0 = [] ∧ preB 1 = [102] ∧ preB 2 = [242] ∧ preB 3 = [102, 242] ∧ preB 4 = [243] ∧ preB 5 = [102, 243] := by decide +kernel
theorem layB_no {pre rex : Int} (h : ¬ layE pre rex = 0) : layB pre rex = [] := if_neg h
theorem layB_yes {pre rex : Int} (h : layE pre rex = 0) : layB pre rex = preB pre ++ rexB rex := if_pos h
/-- What Lay answers. -/
def Laid (pre rex : Int) (w : World) (e : Ending) (w' : World) : Prop := ∃ v, e = .returned (.tuple #[v, .int .i64 (layE pre rex)]) ∧ Below w.heap.size w w' ∧ RowZ w' w.heap.size v (layB pre rex)
set_option maxHeartbeats 1000000 in
theorem xlay_no (pre rex : Int) (h : ¬ layE pre rex = 0) (w : World) :
    Calls Try.prog 7 #[.int .i64 pre, .int .i64 rex] w (Laid pre rex w) := by
  have HB := hid (layB_no h)
  cases hv : validF pre
  · have HE := hid (show layE pre rex = 2 by simp [layE, hv])
    have HV := hid hv
    clear h hv
    go_enter Try.func7, Try.ntmps7
    go_wp2_with (go_at_call 23; refine (valid_of HV.out _).mono ?_; rintro e w1 ⟨rfl, rfl⟩)
    go_ret2
    exact ⟨_, by rw [HE.out]; rfl, Below.refl _ _, by rw [HB.out]; exact RowZ.nil _ _⟩
  · have h1 : ¬ rex = -1 ∧ isF rex = false := by
      by_cases h1 : rex = -1
      · subst h1; exact absurd (by simp [layE, hv]) h
      · refine ⟨h1, ?_⟩
        cases hi : isF rex
        · rfl
        · exact absurd (by simp [layE, hv, hi]) h
    have HE := hid (show layE pre rex = 5 by simp [layE, hv, h1])
    have HV := hid hv
    have HI := hid h1.2
    have h2 : (rex != -1) = true := by simpa using h1.1
    clear h hv h1
    go_enter Try.func7, Try.ntmps7
    go_wp2_with (first | (go_at_call 23; refine (valid_of HV.out _).mono ?_; rintro e w1 ⟨rfl, rfl⟩) | (go_at_call 24; refine (is_of HI.out _).mono ?_; rintro e w1 ⟨rfl, rfl⟩))
    go_ret2
    exact ⟨_, by rw [HE.out]; rfl, Below.refl _ _, by rw [HB.out]; exact RowZ.nil _ _⟩
set_option maxHeartbeats 1000000 in
theorem xlay_yes (pre rex : Int) (h : layE pre rex = 0) (w : World) :
    Calls Try.prog 7 #[.int .i64 pre, .int .i64 rex] w (Laid pre rex w) := by
  have HB := hid (layB_yes h)
  have HE := hid h
  have hv : validF pre = true := by
    cases hv : validF pre
    · simp [layE, hv] at h
    · rfl
  have HV := hid hv
  have hr : rex = -1 ∨ (isF rex = true ∧ (rex != -1) = true) := by
    by_cases h1 : rex = -1
    · exact .inl h1
    · refine .inr ⟨?_, by simpa using h1⟩
      simp [layE, hv, h1] at h
      exact h
  have i0 := (index_2 (SL (w.heap.size + 1) 1) (SL (w.heap.size + 1 + 1) 1) (SL (w.heap.size + 1 + 1 + 1) 2) (SL (w.heap.size + 1 + 1 + 1 + 1) 2))
  clear h hv
  rcases hr with rfl | ⟨hi, hne⟩
  · go_enter Try.func7, Try.ntmps7
    go_wp2_with (first | (go_at_call 23; refine (valid_of HV.out _).mono ?_; rintro e w1 ⟨rfl, rfl⟩) | (go_at_call 25; refine (places_any _).mono ?_; rintro e w1 ⟨rfl, HO⟩))
    have HP := hid (show Places w.heap.size none [] w1 from ⟨HO.out.nums (t := 3) [1] (by simp), HO.out.bytes [102] (is_bytes (by decide)) (by simp), HO.out.nums (t := 3) [2, 4] (by simp), HO.out.bytes [242, 243] (is_bytes (by decide)) (by simp), Mem.nil _ _ _⟩)
    have HB0 := hid HO.out.below
    clear HO
    go_loopw [6, 22] (fun v i wr => (i = .int .i64 0 ∧ v = .slice none 0 0 ∧ w1 = wr) ∨ (i = .int .i64 1 ∧ Hid (RowZ wr w1.heap.size v (addF pre [1] [102]) ∧ Below w1.heap.size w1 wr)) ∨ (i = .int .i64 2 ∧ Hid (RowZ wr w1.heap.size v (preB pre) ∧ Below w1.heap.size w1 wr))) (fun _ i _ => 2 - (intOf i).toNat)
    case atStart => exact .inl ⟨rfl, rfl, rfl⟩
    case round =>
      rcases hrel with ⟨rfl, rfl, rfl⟩ | ⟨rfl, HR⟩ | ⟨rfl, HR⟩
      · have e0 := (i0 w1).1
        have HB1 := hid (((Below.refl w1.heap.size w1).alloc (Nat.le_refl _) (.cells #[SL (w.heap.size + 1) 1, SL (w.heap.size + 1 + 1) 1] 43)))
        have HQ1 := hid (HP.out.n1.below HB1.out)
        have HQ2 := hid (HP.out.b1.below HB1.out)
        go_wp2_with (go_at_call 26; refine (add_any pre (w.heap.size + 1) (w.heap.size + 1 + 1) 1 [1] [102] [] rfl rfl (by decide) _ _ w1.heap.size HB1.out.size (RowZ.nil _ _) (by decide) HQ1.out HQ2.out).mono ?_; rintro e w5 ⟨v5, rfl, hb5, hr5⟩; have HB5 := hid hb5; have HR5 := hid hr5; clear hb5 hr5)
        go_roundw
        case rel => exact .inr (.inl ⟨rfl, hid ⟨HR5.out, HB1.out.trans HB5.out⟩⟩)
        case measure => simp [intOf]
      · have e0 := (i0 wr).2
        have HB1 := hid (HR.out.2.trans (((Below.refl wr.heap.size wr).alloc (Nat.le_refl _) (.cells #[SL (w.heap.size + 1 + 1 + 1) 2, SL (w.heap.size + 1 + 1 + 1 + 1) 2] 43)).mono HR.out.2.size))
        have HQ1 := hid (HP.out.n2.below HB1.out)
        have HQ2 := hid (HP.out.b2.below HB1.out)
        go_wp2_with (go_at_call 26; refine (add_any pre (w.heap.size + 1 + 1 + 1) (w.heap.size + 1 + 1 + 1 + 1) 2 [2, 4] [242, 243] (addF pre [1] [102]) rfl rfl (by decide) _ _ w1.heap.size HB1.out.size (HR.out.1.alloc _) (Nat.le_trans (addF_length pre [1] [102] 1 (by decide)) (by decide)) HQ1.out HQ2.out).mono ?_; rintro e w5 ⟨v5, rfl, hb5, hr5⟩; have HB5 := hid hb5; have HR5 := hid hr5; clear hb5 hr5)
        go_roundw
        case rel => exact .inr (.inr ⟨rfl, hid ⟨HR5.out, HB1.out.trans HB5.out⟩⟩)
        case measure => simp [intOf]
      · go_wp2
        go_ret2
        refine ⟨u6, by rw [HE.out]; rfl, HB0.out.trans (HR.out.2.mono HB0.out.size), ?_⟩
        rw [HB.out, show rexB (-1) = [] from rfl, List.append_nil]
        exact HR.out.1.mono HB0.out.size
  · have HI := hid hi
    have hr := isF_yes hi
    clear hi
    go_enter Try.func7, Try.ntmps7
    go_wp2_with (first | (go_at_call 23; refine (valid_of HV.out _).mono ?_; rintro e w1 ⟨rfl, rfl⟩) | (go_at_call 24; refine (is_of HI.out _).mono ?_; rintro e w1 ⟨rfl, rfl⟩) | (go_at_call 25; refine (places_any _).mono ?_; rintro e w1 ⟨rfl, HO⟩))
    have HP := hid (show Places w.heap.size none [] w1 from ⟨HO.out.nums (t := 3) [1] (by simp), HO.out.bytes [102] (is_bytes (by decide)) (by simp), HO.out.nums (t := 3) [2, 4] (by simp), HO.out.bytes [242, 243] (is_bytes (by decide)) (by simp), Mem.nil _ _ _⟩)
    have HB0 := hid HO.out.below
    clear HO
    go_loopw [6, 22] (fun v i wr => (i = .int .i64 0 ∧ v = .slice none 0 0 ∧ w1 = wr) ∨ (i = .int .i64 1 ∧ Hid (RowZ wr w1.heap.size v (addF pre [1] [102]) ∧ Below w1.heap.size w1 wr)) ∨ (i = .int .i64 2 ∧ Hid (RowZ wr w1.heap.size v (preB pre) ∧ Below w1.heap.size w1 wr))) (fun _ i _ => 2 - (intOf i).toNat)
    case atStart => exact .inl ⟨rfl, rfl, rfl⟩
    case round =>
      rcases hrel with ⟨rfl, rfl, rfl⟩ | ⟨rfl, HR⟩ | ⟨rfl, HR⟩
      · have e0 := (i0 w1).1
        have HB1 := hid (((Below.refl w1.heap.size w1).alloc (Nat.le_refl _) (.cells #[SL (w.heap.size + 1) 1, SL (w.heap.size + 1 + 1) 1] 43)))
        have HQ1 := hid (HP.out.n1.below HB1.out)
        have HQ2 := hid (HP.out.b1.below HB1.out)
        go_wp2_with (go_at_call 26; refine (add_any pre (w.heap.size + 1) (w.heap.size + 1 + 1) 1 [1] [102] [] rfl rfl (by decide) _ _ w1.heap.size HB1.out.size (RowZ.nil _ _) (by decide) HQ1.out HQ2.out).mono ?_; rintro e w5 ⟨v5, rfl, hb5, hr5⟩; have HB5 := hid hb5; have HR5 := hid hr5; clear hb5 hr5)
        go_roundw
        case rel => exact .inr (.inl ⟨rfl, hid ⟨HR5.out, HB1.out.trans HB5.out⟩⟩)
        case measure => simp [intOf]
      · have e0 := (i0 wr).2
        have HB1 := hid (HR.out.2.trans (((Below.refl wr.heap.size wr).alloc (Nat.le_refl _) (.cells #[SL (w.heap.size + 1 + 1 + 1) 2, SL (w.heap.size + 1 + 1 + 1 + 1) 2] 43)).mono HR.out.2.size))
        have HQ1 := hid (HP.out.n2.below HB1.out)
        have HQ2 := hid (HP.out.b2.below HB1.out)
        go_wp2_with (go_at_call 26; refine (add_any pre (w.heap.size + 1 + 1 + 1) (w.heap.size + 1 + 1 + 1 + 1) 2 [2, 4] [242, 243] (addF pre [1] [102]) rfl rfl (by decide) _ _ w1.heap.size HB1.out.size (HR.out.1.alloc _) (Nat.le_trans (addF_length pre [1] [102] 1 (by decide)) (by decide)) HQ1.out HQ2.out).mono ?_; rintro e w5 ⟨v5, rfl, hb5, hr5⟩; have HB5 := hid hb5; have HR5 := hid hr5; clear hb5 hr5)
        go_roundw
        case rel => exact .inr (.inr ⟨rfl, hid ⟨HR5.out, HB1.out.trans HB5.out⟩⟩)
        case measure => simp [intOf]
      · have HL := hid (show (preB pre).length ≤ 1000 by
          have h1 := addF_length pre [1] [102] 1 (by decide)
          have h2 := addF_length pre [2, 4] [242, 243] 2 (by decide)
          unfold preB; rw [List.length_append]; omega)
        go_wp2_with (at_builtin; refine wpList_append_rowz rfl _ _ rfl w1.heap.size u6 _ rfl (HR.out.1.alloc _) HL.out (by simp; have := HR.out.2.size; omega) wr.heap.size 1 (64 + rex) rfl (by simp) (by omega) ?_; intro v7 w7 hr7 hg7)
        have HB7 := hid ((HR.out.2.alloc HR.out.2.size (.cells #[.int .u8 (64 + rex)] 5)).grown hg7.out (by simp; have := HR.out.2.size; omega) HR.out.1.own)
        go_wp2
        go_ret2
        refine ⟨v7, by rw [HE.out]; rfl, HB0.out.trans (HB7.out.mono HB0.out.size), ?_⟩
        rw [HB.out, show rexB rex = [64 + rex] from if_neg (by omega)]
        exact hr7.out.mono HB0.out.size
theorem xlay_any (pre rex : Int) (w : World) :
    Calls Try.prog 7 #[.int .i64 pre, .int .i64 rex] w (Laid pre rex w) := by
  by_cases h : layE pre rex = 0
  · exact xlay_yes pre rex h w
  · exact xlay_no pre rex h w
set_option maxHeartbeats 1000000 in
theorem rlay_no (pre rex : Int) (h : ¬ layE pre rex = 0) (w : World) :
    Calls Try.prog 8 #[.int .i64 pre, .int .i64 rex] w (Laid pre rex w) := by
  have HB := hid (layB_no h)
  cases hv : validF pre
  · have HE := hid (show layE pre rex = 2 by simp [layE, hv])
    have h1 := validF_no hv
    clear h hv
    rcases h1 with h1 | rfl | rfl | h1
    all_goals
      go_enter Try.func8, Try.ntmps8
      go_wp2
      go_ret2
      exact ⟨_, by rw [HE.out]; rfl, Below.refl _ _, by rw [HB.out]; exact RowZ.nil _ _⟩
  · have h1 : ¬ rex = -1 ∧ isF rex = false := by
      by_cases h1 : rex = -1
      · subst h1; exact absurd (by simp [layE, hv]) h
      · refine ⟨h1, ?_⟩
        cases hi : isF rex
        · rfl
        · exact absurd (by simp [layE, hv, hi]) h
    have HE := hid (show layE pre rex = 5 by simp [layE, hv, h1])
    have h3 : rex < -1 ∨ 15 < rex := by have := isF_no h1.2; omega
    have h4 : 0 ≤ pre ∧ pre ≤ 5 := by have := validF_yes hv; omega
    clear h hv h1
    rcases h3 with h3 | h3
    all_goals
      go_enter Try.func8, Try.ntmps8
      go_wp2
      go_ret2
      exact ⟨_, by rw [HE.out]; rfl, Below.refl _ _, by rw [HB.out]; exact RowZ.nil _ _⟩
theorem rexB_none : rexB (-1) = [] := rfl
theorem rexB_some {rex : Int} (h : 0 ≤ rex) : rexB rex = [64 + rex] := if_neg (by omega)
set_option maxHeartbeats 1000000 in
theorem rlay_00 (w : World) :
    Calls Try.prog 8 #[.int .i64 0, .int .i64 (-1)] w (Laid 0 (-1) w) := by
  have HE := hid (show layE 0 (-1) = 0 by decide +kernel)
  have HB := hid (show layB 0 (-1) = [] by rw [layB_yes HE.out, preB_all.1]; rfl)
  go_enter Try.func8, Try.ntmps8
  go_wp2
  go_ret2
  exact ⟨_, by rw [HE.out]; rfl, Below.refl _ _, by rw [HB.out]; exact RowZ.nil _ _⟩
set_option maxHeartbeats 1000000 in
theorem rlay_01 (rex : Int) (h : 0 ≤ rex ∧ rex ≤ 15) (w : World) :
    Calls Try.prog 8 #[.int .i64 0, .int .i64 rex] w (Laid 0 rex w) := by
  have HE := hid (show layE 0 rex = 0 by simp [layE, validF, isF]; omega)
  have HB := hid (show layB 0 rex = [64 + rex] by rw [layB_yes HE.out, preB_all.1, rexB_some h.1]; rfl)
  go_enter Try.func8, Try.ntmps8
  go_wp2_with (first | (at_builtin; refine wpList_append_rowz rfl _ _ rfl w.heap.size (.slice none 0 0) [] rfl (RowZ.alloc (RowZ.nil _ _) _) (by simp) (by simp) w.heap.size 1 (64 + rex) rfl (by simp) (by omega) ?_; intro v0 w0 hr0 hg0; have HB0 := hid ((Below.alloc (Below.refl _ _) (Nat.le_refl _) (.cells #[.int .u8 (64 + rex)] 5)).grown hg0.out (by simp) (RowZ.own (RowZ.nil w _))); have HR0 := hid (show RowZ w0 w.heap.size v0 [64 + rex] from hr0.out); clear hg0 hr0))
  go_ret2
  exact ⟨_, by rw [HE.out]; rfl, HB0.out, by rw [HB.out]; exact HR0.out⟩
set_option maxHeartbeats 1000000 in
theorem rlay_10 (w : World) :
    Calls Try.prog 8 #[.int .i64 1, .int .i64 (-1)] w (Laid 1 (-1) w) := by
  have HE := hid (show layE 1 (-1) = 0 by decide +kernel)
  have HB := hid (show layB 1 (-1) = [102] by rw [layB_yes HE.out, preB_all.2.1]; rfl)
  go_enter Try.func8, Try.ntmps8
  go_wp2_with (first | (at_builtin; refine wpList_append_rowz rfl _ _ rfl w.heap.size (.slice none 0 0) [] rfl (RowZ.alloc (RowZ.nil _ _) _) (by simp) (by simp) w.heap.size 1 102 rfl (by simp) (by omega) ?_; intro v0 w0 hr0 hg0; have HB0 := hid ((Below.alloc (Below.refl _ _) (Nat.le_refl _) (.cells #[.int .u8 102] 5)).grown hg0.out (by simp) (RowZ.own (RowZ.nil w _))); have HR0 := hid (show RowZ w0 w.heap.size v0 [102] from hr0.out); clear hg0 hr0))
  go_ret2
  exact ⟨_, by rw [HE.out]; rfl, HB0.out, by rw [HB.out]; exact HR0.out⟩
set_option maxHeartbeats 1000000 in
theorem rlay_11 (rex : Int) (h : 0 ≤ rex ∧ rex ≤ 15) (w : World) :
    Calls Try.prog 8 #[.int .i64 1, .int .i64 rex] w (Laid 1 rex w) := by
  have HE := hid (show layE 1 rex = 0 by simp [layE, validF, isF]; omega)
  have HB := hid (show layB 1 rex = [102, 64 + rex] by rw [layB_yes HE.out, preB_all.2.1, rexB_some h.1]; rfl)
  go_enter Try.func8, Try.ntmps8
  go_wp2_with (first | (at_builtin; refine wpList_append_rowz rfl _ _ rfl w.heap.size (.slice none 0 0) [] rfl (RowZ.alloc (RowZ.nil _ _) _) (by simp) (by simp) w.heap.size 1 102 rfl (by simp) (by omega) ?_; intro v0 w0 hr0 hg0; have HB0 := hid ((Below.alloc (Below.refl _ _) (Nat.le_refl _) (.cells #[.int .u8 102] 5)).grown hg0.out (by simp) (RowZ.own (RowZ.nil w _))); have HR0 := hid (show RowZ w0 w.heap.size v0 [102] from hr0.out); clear hg0 hr0) | (at_builtin; refine wpList_append_rowz rfl _ _ rfl w.heap.size v0 [102] rfl (RowZ.alloc (HR0.out) _) (by simp) (by simp; have := HB0.out.size; omega) w0.heap.size 1 (64 + rex) rfl (by simp) (by omega) ?_; intro v1 w1 hr1 hg1; have HB1 := hid ((Below.alloc (HB0.out) (HB0.out.size) (.cells #[.int .u8 (64 + rex)] 5)).grown hg1.out (by simp; have := HB0.out.size; omega) (RowZ.own (HR0.out))); have HR1 := hid (show RowZ w1 w.heap.size v1 [102, 64 + rex] from hr1.out); clear hg1 hr1))
  go_ret2
  exact ⟨_, by rw [HE.out]; rfl, HB1.out, by rw [HB.out]; exact HR1.out⟩
set_option maxHeartbeats 1000000 in
theorem rlay_20 (w : World) :
    Calls Try.prog 8 #[.int .i64 2, .int .i64 (-1)] w (Laid 2 (-1) w) := by
  have HE := hid (show layE 2 (-1) = 0 by decide +kernel)
  have HB := hid (show layB 2 (-1) = [242] by rw [layB_yes HE.out, preB_all.2.2.1]; rfl)
  go_enter Try.func8, Try.ntmps8
  go_wp2_with (first | (at_builtin; refine wpList_append_rowz rfl _ _ rfl w.heap.size (.slice none 0 0) [] rfl (RowZ.alloc (RowZ.nil _ _) _) (by simp) (by simp) w.heap.size 1 242 rfl (by simp) (by omega) ?_; intro v0 w0 hr0 hg0; have HB0 := hid ((Below.alloc (Below.refl _ _) (Nat.le_refl _) (.cells #[.int .u8 242] 5)).grown hg0.out (by simp) (RowZ.own (RowZ.nil w _))); have HR0 := hid (show RowZ w0 w.heap.size v0 [242] from hr0.out); clear hg0 hr0))
  go_ret2
  exact ⟨_, by rw [HE.out]; rfl, HB0.out, by rw [HB.out]; exact HR0.out⟩
set_option maxHeartbeats 1000000 in
theorem rlay_21 (rex : Int) (h : 0 ≤ rex ∧ rex ≤ 15) (w : World) :
    Calls Try.prog 8 #[.int .i64 2, .int .i64 rex] w (Laid 2 rex w) := by
  have HE := hid (show layE 2 rex = 0 by simp [layE, validF, isF]; omega)
  have HB := hid (show layB 2 rex = [242, 64 + rex] by rw [layB_yes HE.out, preB_all.2.2.1, rexB_some h.1]; rfl)
  go_enter Try.func8, Try.ntmps8
  go_wp2_with (first | (at_builtin; refine wpList_append_rowz rfl _ _ rfl w.heap.size (.slice none 0 0) [] rfl (RowZ.alloc (RowZ.nil _ _) _) (by simp) (by simp) w.heap.size 1 242 rfl (by simp) (by omega) ?_; intro v0 w0 hr0 hg0; have HB0 := hid ((Below.alloc (Below.refl _ _) (Nat.le_refl _) (.cells #[.int .u8 242] 5)).grown hg0.out (by simp) (RowZ.own (RowZ.nil w _))); have HR0 := hid (show RowZ w0 w.heap.size v0 [242] from hr0.out); clear hg0 hr0) | (at_builtin; refine wpList_append_rowz rfl _ _ rfl w.heap.size v0 [242] rfl (RowZ.alloc (HR0.out) _) (by simp) (by simp; have := HB0.out.size; omega) w0.heap.size 1 (64 + rex) rfl (by simp) (by omega) ?_; intro v1 w1 hr1 hg1; have HB1 := hid ((Below.alloc (HB0.out) (HB0.out.size) (.cells #[.int .u8 (64 + rex)] 5)).grown hg1.out (by simp; have := HB0.out.size; omega) (RowZ.own (HR0.out))); have HR1 := hid (show RowZ w1 w.heap.size v1 [242, 64 + rex] from hr1.out); clear hg1 hr1))
  go_ret2
  exact ⟨_, by rw [HE.out]; rfl, HB1.out, by rw [HB.out]; exact HR1.out⟩
set_option maxHeartbeats 1000000 in
theorem rlay_30 (w : World) :
    Calls Try.prog 8 #[.int .i64 3, .int .i64 (-1)] w (Laid 3 (-1) w) := by
  have HE := hid (show layE 3 (-1) = 0 by decide +kernel)
  have HB := hid (show layB 3 (-1) = [102, 242] by rw [layB_yes HE.out, preB_all.2.2.2.1]; rfl)
  go_enter Try.func8, Try.ntmps8
  go_wp2_with (first | (at_builtin; refine wpList_append_rowz rfl _ _ rfl w.heap.size (.slice none 0 0) [] rfl (RowZ.alloc (RowZ.nil _ _) _) (by simp) (by simp) w.heap.size 1 102 rfl (by simp) (by omega) ?_; intro v0 w0 hr0 hg0; have HB0 := hid ((Below.alloc (Below.refl _ _) (Nat.le_refl _) (.cells #[.int .u8 102] 5)).grown hg0.out (by simp) (RowZ.own (RowZ.nil w _))); have HR0 := hid (show RowZ w0 w.heap.size v0 [102] from hr0.out); clear hg0 hr0) | (at_builtin; refine wpList_append_rowz rfl _ _ rfl w.heap.size v0 [102] rfl (RowZ.alloc (HR0.out) _) (by simp) (by simp; have := HB0.out.size; omega) w0.heap.size 1 242 rfl (by simp) (by omega) ?_; intro v1 w1 hr1 hg1; have HB1 := hid ((Below.alloc (HB0.out) (HB0.out.size) (.cells #[.int .u8 242] 5)).grown hg1.out (by simp; have := HB0.out.size; omega) (RowZ.own (HR0.out))); have HR1 := hid (show RowZ w1 w.heap.size v1 [102, 242] from hr1.out); clear hg1 hr1))
  go_ret2
  exact ⟨_, by rw [HE.out]; rfl, HB1.out, by rw [HB.out]; exact HR1.out⟩
set_option maxHeartbeats 1000000 in
theorem rlay_31 (rex : Int) (h : 0 ≤ rex ∧ rex ≤ 15) (w : World) :
    Calls Try.prog 8 #[.int .i64 3, .int .i64 rex] w (Laid 3 rex w) := by
  have HE := hid (show layE 3 rex = 0 by simp [layE, validF, isF]; omega)
  have HB := hid (show layB 3 rex = [102, 242, 64 + rex] by rw [layB_yes HE.out, preB_all.2.2.2.1, rexB_some h.1]; rfl)
  go_enter Try.func8, Try.ntmps8
  go_wp2_with (first | (at_builtin; refine wpList_append_rowz rfl _ _ rfl w.heap.size (.slice none 0 0) [] rfl (RowZ.alloc (RowZ.nil _ _) _) (by simp) (by simp) w.heap.size 1 102 rfl (by simp) (by omega) ?_; intro v0 w0 hr0 hg0; have HB0 := hid ((Below.alloc (Below.refl _ _) (Nat.le_refl _) (.cells #[.int .u8 102] 5)).grown hg0.out (by simp) (RowZ.own (RowZ.nil w _))); have HR0 := hid (show RowZ w0 w.heap.size v0 [102] from hr0.out); clear hg0 hr0) | (at_builtin; refine wpList_append_rowz rfl _ _ rfl w.heap.size v0 [102] rfl (RowZ.alloc (HR0.out) _) (by simp) (by simp; have := HB0.out.size; omega) w0.heap.size 1 242 rfl (by simp) (by omega) ?_; intro v1 w1 hr1 hg1; have HB1 := hid ((Below.alloc (HB0.out) (HB0.out.size) (.cells #[.int .u8 242] 5)).grown hg1.out (by simp; have := HB0.out.size; omega) (RowZ.own (HR0.out))); have HR1 := hid (show RowZ w1 w.heap.size v1 [102, 242] from hr1.out); clear hg1 hr1) | (at_builtin; refine wpList_append_rowz rfl _ _ rfl w.heap.size v1 [102, 242] rfl (RowZ.alloc (HR1.out) _) (by simp) (by simp; have := HB1.out.size; omega) w1.heap.size 1 (64 + rex) rfl (by simp) (by omega) ?_; intro v2 w2 hr2 hg2; have HB2 := hid ((Below.alloc (HB1.out) (HB1.out.size) (.cells #[.int .u8 (64 + rex)] 5)).grown hg2.out (by simp; have := HB1.out.size; omega) (RowZ.own (HR1.out))); have HR2 := hid (show RowZ w2 w.heap.size v2 [102, 242, 64 + rex] from hr2.out); clear hg2 hr2))
  go_ret2
  exact ⟨_, by rw [HE.out]; rfl, HB2.out, by rw [HB.out]; exact HR2.out⟩
set_option maxHeartbeats 1000000 in
theorem rlay_40 (w : World) :
    Calls Try.prog 8 #[.int .i64 4, .int .i64 (-1)] w (Laid 4 (-1) w) := by
  have HE := hid (show layE 4 (-1) = 0 by decide +kernel)
  have HB := hid (show layB 4 (-1) = [243] by rw [layB_yes HE.out, preB_all.2.2.2.2.1]; rfl)
  go_enter Try.func8, Try.ntmps8
  go_wp2_with (first | (at_builtin; refine wpList_append_rowz rfl _ _ rfl w.heap.size (.slice none 0 0) [] rfl (RowZ.alloc (RowZ.nil _ _) _) (by simp) (by simp) w.heap.size 1 243 rfl (by simp) (by omega) ?_; intro v0 w0 hr0 hg0; have HB0 := hid ((Below.alloc (Below.refl _ _) (Nat.le_refl _) (.cells #[.int .u8 243] 5)).grown hg0.out (by simp) (RowZ.own (RowZ.nil w _))); have HR0 := hid (show RowZ w0 w.heap.size v0 [243] from hr0.out); clear hg0 hr0))
  go_ret2
  exact ⟨_, by rw [HE.out]; rfl, HB0.out, by rw [HB.out]; exact HR0.out⟩
set_option maxHeartbeats 1000000 in
theorem rlay_41 (rex : Int) (h : 0 ≤ rex ∧ rex ≤ 15) (w : World) :
    Calls Try.prog 8 #[.int .i64 4, .int .i64 rex] w (Laid 4 rex w) := by
  have HE := hid (show layE 4 rex = 0 by simp [layE, validF, isF]; omega)
  have HB := hid (show layB 4 rex = [243, 64 + rex] by rw [layB_yes HE.out, preB_all.2.2.2.2.1, rexB_some h.1]; rfl)
  go_enter Try.func8, Try.ntmps8
  go_wp2_with (first | (at_builtin; refine wpList_append_rowz rfl _ _ rfl w.heap.size (.slice none 0 0) [] rfl (RowZ.alloc (RowZ.nil _ _) _) (by simp) (by simp) w.heap.size 1 243 rfl (by simp) (by omega) ?_; intro v0 w0 hr0 hg0; have HB0 := hid ((Below.alloc (Below.refl _ _) (Nat.le_refl _) (.cells #[.int .u8 243] 5)).grown hg0.out (by simp) (RowZ.own (RowZ.nil w _))); have HR0 := hid (show RowZ w0 w.heap.size v0 [243] from hr0.out); clear hg0 hr0) | (at_builtin; refine wpList_append_rowz rfl _ _ rfl w.heap.size v0 [243] rfl (RowZ.alloc (HR0.out) _) (by simp) (by simp; have := HB0.out.size; omega) w0.heap.size 1 (64 + rex) rfl (by simp) (by omega) ?_; intro v1 w1 hr1 hg1; have HB1 := hid ((Below.alloc (HB0.out) (HB0.out.size) (.cells #[.int .u8 (64 + rex)] 5)).grown hg1.out (by simp; have := HB0.out.size; omega) (RowZ.own (HR0.out))); have HR1 := hid (show RowZ w1 w.heap.size v1 [243, 64 + rex] from hr1.out); clear hg1 hr1))
  go_ret2
  exact ⟨_, by rw [HE.out]; rfl, HB1.out, by rw [HB.out]; exact HR1.out⟩
set_option maxHeartbeats 1000000 in
theorem rlay_50 (w : World) :
    Calls Try.prog 8 #[.int .i64 5, .int .i64 (-1)] w (Laid 5 (-1) w) := by
  have HE := hid (show layE 5 (-1) = 0 by decide +kernel)
  have HB := hid (show layB 5 (-1) = [102, 243] by rw [layB_yes HE.out, preB_all.2.2.2.2.2]; rfl)
  go_enter Try.func8, Try.ntmps8
  go_wp2_with (first | (at_builtin; refine wpList_append_rowz rfl _ _ rfl w.heap.size (.slice none 0 0) [] rfl (RowZ.alloc (RowZ.nil _ _) _) (by simp) (by simp) w.heap.size 1 102 rfl (by simp) (by omega) ?_; intro v0 w0 hr0 hg0; have HB0 := hid ((Below.alloc (Below.refl _ _) (Nat.le_refl _) (.cells #[.int .u8 102] 5)).grown hg0.out (by simp) (RowZ.own (RowZ.nil w _))); have HR0 := hid (show RowZ w0 w.heap.size v0 [102] from hr0.out); clear hg0 hr0) | (at_builtin; refine wpList_append_rowz rfl _ _ rfl w.heap.size v0 [102] rfl (RowZ.alloc (HR0.out) _) (by simp) (by simp; have := HB0.out.size; omega) w0.heap.size 1 243 rfl (by simp) (by omega) ?_; intro v1 w1 hr1 hg1; have HB1 := hid ((Below.alloc (HB0.out) (HB0.out.size) (.cells #[.int .u8 243] 5)).grown hg1.out (by simp; have := HB0.out.size; omega) (RowZ.own (HR0.out))); have HR1 := hid (show RowZ w1 w.heap.size v1 [102, 243] from hr1.out); clear hg1 hr1))
  go_ret2
  exact ⟨_, by rw [HE.out]; rfl, HB1.out, by rw [HB.out]; exact HR1.out⟩
set_option maxHeartbeats 1000000 in
theorem rlay_51 (rex : Int) (h : 0 ≤ rex ∧ rex ≤ 15) (w : World) :
    Calls Try.prog 8 #[.int .i64 5, .int .i64 rex] w (Laid 5 rex w) := by
  have HE := hid (show layE 5 rex = 0 by simp [layE, validF, isF]; omega)
  have HB := hid (show layB 5 rex = [102, 243, 64 + rex] by rw [layB_yes HE.out, preB_all.2.2.2.2.2, rexB_some h.1]; rfl)
  go_enter Try.func8, Try.ntmps8
  go_wp2_with (first | (at_builtin; refine wpList_append_rowz rfl _ _ rfl w.heap.size (.slice none 0 0) [] rfl (RowZ.alloc (RowZ.nil _ _) _) (by simp) (by simp) w.heap.size 1 102 rfl (by simp) (by omega) ?_; intro v0 w0 hr0 hg0; have HB0 := hid ((Below.alloc (Below.refl _ _) (Nat.le_refl _) (.cells #[.int .u8 102] 5)).grown hg0.out (by simp) (RowZ.own (RowZ.nil w _))); have HR0 := hid (show RowZ w0 w.heap.size v0 [102] from hr0.out); clear hg0 hr0) | (at_builtin; refine wpList_append_rowz rfl _ _ rfl w.heap.size v0 [102] rfl (RowZ.alloc (HR0.out) _) (by simp) (by simp; have := HB0.out.size; omega) w0.heap.size 1 243 rfl (by simp) (by omega) ?_; intro v1 w1 hr1 hg1; have HB1 := hid ((Below.alloc (HB0.out) (HB0.out.size) (.cells #[.int .u8 243] 5)).grown hg1.out (by simp; have := HB0.out.size; omega) (RowZ.own (HR0.out))); have HR1 := hid (show RowZ w1 w.heap.size v1 [102, 243] from hr1.out); clear hg1 hr1) | (at_builtin; refine wpList_append_rowz rfl _ _ rfl w.heap.size v1 [102, 243] rfl (RowZ.alloc (HR1.out) _) (by simp) (by simp; have := HB1.out.size; omega) w1.heap.size 1 (64 + rex) rfl (by simp) (by omega) ?_; intro v2 w2 hr2 hg2; have HB2 := hid ((Below.alloc (HB1.out) (HB1.out.size) (.cells #[.int .u8 (64 + rex)] 5)).grown hg2.out (by simp; have := HB1.out.size; omega) (RowZ.own (HR1.out))); have HR2 := hid (show RowZ w2 w.heap.size v2 [102, 243, 64 + rex] from hr2.out); clear hg2 hr2))
  go_ret2
  exact ⟨_, by rw [HE.out]; rfl, HB2.out, by rw [HB.out]; exact HR2.out⟩
theorem rlay_any (pre rex : Int) (w : World) :
    Calls Try.prog 8 #[.int .i64 pre, .int .i64 rex] w (Laid pre rex w) := by
  by_cases h : layE pre rex = 0
  · have hv : validF pre = true := by
      cases hv : validF pre
      · simp [layE, hv] at h
      · rfl
    have hr : rex = -1 ∨ (0 ≤ rex ∧ rex ≤ 15) := by
      by_cases h1 : rex = -1
      · exact .inl h1
      · refine .inr (isF_yes ?_)
        simp [layE, hv, h1] at h
        exact h
    rcases hr with rfl | hr
    · rcases validF_yes hv with rfl | rfl | rfl | rfl | rfl | rfl
      · exact rlay_00 w
      · exact rlay_10 w
      · exact rlay_20 w
      · exact rlay_30 w
      · exact rlay_40 w
      · exact rlay_50 w
    · rcases validF_yes hv with rfl | rfl | rfl | rfl | rfl | rfl
      · exact rlay_01 rex hr w
      · exact rlay_11 rex hr w
      · exact rlay_21 rex hr w
      · exact rlay_31 rex hr w
      · exact rlay_41 rex hr w
      · exact rlay_51 rex hr w
  · exact rlay_no pre rex h w
end Go.Proofs.Ytgioggpehlhbfaa
