/-
  The walk of CondCompares.
-/
import Derived.Test.YtaofkklpbjpjlaaCondCompared
import Derived.Test.YtaofkklpbjpjlaaPick
import Derived.Deep.RegionHeld3
import Derived.Deep.DeepCutAuto
namespace Go.Proofs.Ytaofkklpbjpjlaa
open Go.RowKit

/-- What a condition says of two bytes, by their numbers and by these with a sign. -/
def sayF (m : Nat) (a b x y : Int) : Bool := match m with
  | 2 => decide (a < b)
  | 3 => decide (b ≤ a)
  | 4 => a == b
  | 5 => a != b
  | 6 => decide (a ≤ b)
  | 7 => decide (b < a)
  | 12 => decide (x < y)
  | 13 => decide (y ≤ x)
  | 14 => decide (x ≤ y)
  | 15 => decide (y < x)
  | _ => false
/-- A condition of these, by its flags. -/
def valF (m : Nat) (c z l : Bool) : Bool := match m with
  | 2 => c
  | 3 => !c
  | 4 => z
  | 5 => !z
  | 6 => c || z
  | 7 => !(c || z)
  | 12 => l
  | 13 => !l
  | 14 => z || l
  | 15 => !(z || l)
  | _ => false
/-- Those that have to do with how numbers are. -/
def Ask (m : Nat) : Prop := m = 2 ∨ m = 3 ∨ m = 4 ∨ m = 5 ∨ m = 6 ∨ m = 7 ∨ m = 12 ∨ m = 13 ∨ m = 14 ∨ m = 15
theorem holds_val {m : Nat} (hm : Ask m) (c z s o p : Bool) : holdsF (m : Int) c z s o p = valF m c z (s != o) := by
  rcases hm with rfl | rfl | rfl | rfl | rfl | rfl | rfl | rfl | rfl | rfl
  all_goals
    revert c z s o p
    decide +kernel
def swapN (m : Nat) : Nat := if m < 8 then (if m = 4 ∨ m = 5 then m else 9 - m) else 27 - m
theorem swap_nat {m : Nat} (hm : Ask m) : swapF (m : Int) = (swapN m : Nat) ∧ Ask (swapN m) := by
  rcases hm with rfl | rfl | rfl | rfl | rfl | rfl | rfl | rfl | rfl | rfl
  all_goals exact ⟨by decide, by unfold Ask; decide⟩
theorem less_flag (a b : Int) (ha : 0 ≤ a ∧ a < 256) (hb : 0 ≤ b ∧ b < 256) : (sF a b != oF (sg a) (sg b)) = decide (sg a < sg b) := by
  have e1 : sF a b = decide (127 < (a - b) % 256) := rfl
  have e2 : oF (sg a) (sg b) = decide (sg a - sg b < -128 ∨ 127 < sg a - sg b) := by simp [oF]
  rw [e1, e2]
  by_cases h1 : 127 < (a - b) % 256 <;> by_cases h2 : sg a - sg b < -128 ∨ 127 < sg a - sg b <;> by_cases h3 : sg a < sg b
  all_goals first | (rw [decide_eq_true h1] ; skip) | (rw [decide_eq_false h1]; skip)
  all_goals first | (rw [decide_eq_true h2] ; skip) | (rw [decide_eq_false h2]; skip)
  all_goals first | (rw [decide_eq_true h3] ; skip) | (rw [decide_eq_false h3]; skip)
  all_goals first | rfl | (exfalso; unfold sg at h2 h3; (repeat' split at h2) <;> (repeat' split at h3) <;> omega)
theorem val_say {m : Nat} (hm : Ask m) (a b : Int) (ha : 0 ≤ a ∧ a < 256) (hb : 0 ≤ b ∧ b < 256) : valF m (decide (a < b)) (a == b) (decide (sg a < sg b)) = sayF m a b (sg a) (sg b) := by
  have hs : sg a = sg b ↔ a = b := by unfold sg; constructor <;> intro h <;> (repeat' split at h) <;> first | omega | (subst h; rfl)
  rcases hm with rfl | rfl | rfl | rfl | rfl | rfl | rfl | rfl | rfl | rfl
  all_goals
    simp only [valF, sayF]
    first | done | rfl | (rw [Bool.eq_iff_iff]; simp; done) | (rw [Bool.eq_iff_iff]; simp; omega)
theorem say_swap {m : Nat} (hm : Ask m) (a b x y : Int) : sayF (swapN m) b a y x = sayF m a b x y := by
  rcases hm with rfl | rfl | rfl | rfl | rfl | rfl | rfl | rfl | rfl | rfl
  all_goals
    simp only [swapN, sayF]
    first | done | rfl | (rw [Bool.eq_iff_iff]; simp; done) | (rw [Bool.eq_iff_iff]; simp; omega)
theorem cmp_holds {m : Nat} (hm : Ask m) (a b : Int) (p : Bool) (ha : 0 ≤ a ∧ a < 256) (hb : 0 ≤ b ∧ b < 256) :
    holdsF (m : Int) (decide (a < b)) (a == b) (sF a b) (oF (sg a) (sg b)) p = sayF m a b (sg a) (sg b) := by
  rw [holds_val hm, less_flag a b ha hb, val_say hm a b ha hb]
theorem cmp_swaps {m : Nat} (hm : Ask m) (a b : Int) (p : Bool) (ha : 0 ≤ a ∧ a < 256) (hb : 0 ≤ b ∧ b < 256) :
    holdsF (swapF m) (decide (b < a)) (b == a) (sF b a) (oF (sg b) (sg a)) p = sayF m a b (sg a) (sg b) := by
  rw [(swap_nat hm).1, cmp_holds (swap_nat hm).2 b a p hb ha, say_swap hm]
/-- Behind a call that leaves old memory alone two boxes and a cell still stand. -/
theorem boxed11 {W w' w'' : World} {g k h m : Nat} {c z s o p c2 z2 s2 o2 p2 v : Value} (hS : Below W.heap.size W w' ∧ w'.cell? ⟨g, 0, none⟩ = some c ∧ w'.cell? ⟨g, 1, none⟩ = some z ∧ w'.cell? ⟨g, 2, none⟩ = some s ∧ w'.cell? ⟨g, 3, none⟩ = some o ∧ w'.cell? ⟨g, 4, none⟩ = some p ∧ w'.cell? ⟨k, 0, none⟩ = some c2 ∧ w'.cell? ⟨k, 1, none⟩ = some z2 ∧ w'.cell? ⟨k, 2, none⟩ = some s2 ∧ w'.cell? ⟨k, 3, none⟩ = some o2 ∧ w'.cell? ⟨k, 4, none⟩ = some p2 ∧ w'.cell? ⟨h, m, none⟩ = some v) (hb : Below w'.heap.size w' w'') (hg : g < W.heap.size) (hk : k < W.heap.size) (hh : h < W.heap.size) :
    Below W.heap.size W w'' ∧ w''.cell? ⟨g, 0, none⟩ = some c ∧ w''.cell? ⟨g, 1, none⟩ = some z ∧ w''.cell? ⟨g, 2, none⟩ = some s ∧ w''.cell? ⟨g, 3, none⟩ = some o ∧ w''.cell? ⟨g, 4, none⟩ = some p ∧ w''.cell? ⟨k, 0, none⟩ = some c2 ∧ w''.cell? ⟨k, 1, none⟩ = some z2 ∧ w''.cell? ⟨k, 2, none⟩ = some s2 ∧ w''.cell? ⟨k, 3, none⟩ = some o2 ∧ w''.cell? ⟨k, 4, none⟩ = some p2 ∧ w''.cell? ⟨h, m, none⟩ = some v := by
  have hs := hS.1.size
  have e1 : ∀ i, w''.cell? ⟨g, i, none⟩ = w'.cell? ⟨g, i, none⟩ := fun i => hb.cell (p := ⟨g, i, none⟩) (show g < w'.heap.size by omega)
  have e2 : ∀ i, w''.cell? ⟨k, i, none⟩ = w'.cell? ⟨k, i, none⟩ := fun i => hb.cell (p := ⟨k, i, none⟩) (show k < w'.heap.size by omega)
  have e3 : ∀ i, w''.cell? ⟨h, i, none⟩ = w'.cell? ⟨h, i, none⟩ := fun i => hb.cell (p := ⟨h, i, none⟩) (show h < w'.heap.size by omega)
  simp only [e1, e2, e3]
  exact ⟨hS.1.trans (hb.mono hs), hS.2⟩
theorem boxed11_drew {W w' : World} {g k h m : Nat} {c z s o p c2 z2 s2 o2 p2 v : Value} (hS : Below W.heap.size W w' ∧ w'.cell? ⟨g, 0, none⟩ = some c ∧ w'.cell? ⟨g, 1, none⟩ = some z ∧ w'.cell? ⟨g, 2, none⟩ = some s ∧ w'.cell? ⟨g, 3, none⟩ = some o ∧ w'.cell? ⟨g, 4, none⟩ = some p ∧ w'.cell? ⟨k, 0, none⟩ = some c2 ∧ w'.cell? ⟨k, 1, none⟩ = some z2 ∧ w'.cell? ⟨k, 2, none⟩ = some s2 ∧ w'.cell? ⟨k, 3, none⟩ = some o2 ∧ w'.cell? ⟨k, 4, none⟩ = some p2 ∧ w'.cell? ⟨h, m, none⟩ = some v) :
    Below W.heap.size W w'.drew ∧ w'.drew.cell? ⟨g, 0, none⟩ = some c ∧ w'.drew.cell? ⟨g, 1, none⟩ = some z ∧ w'.drew.cell? ⟨g, 2, none⟩ = some s ∧ w'.drew.cell? ⟨g, 3, none⟩ = some o ∧ w'.drew.cell? ⟨g, 4, none⟩ = some p ∧ w'.drew.cell? ⟨k, 0, none⟩ = some c2 ∧ w'.drew.cell? ⟨k, 1, none⟩ = some z2 ∧ w'.drew.cell? ⟨k, 2, none⟩ = some s2 ∧ w'.drew.cell? ⟨k, 3, none⟩ = some o2 ∧ w'.drew.cell? ⟨k, 4, none⟩ = some p2 ∧ w'.drew.cell? ⟨h, m, none⟩ = some v := ⟨hS.1.drew, hS.2⟩
theorem says_cell (m : Nat) (hm : Ask m) (a b x y : Int) : (#[Value.bool false, .bool false, .bool (decide (a < b)), .bool (decide (b ≤ a)), .bool (a == b), .bool (a != b), .bool (decide (a ≤ b)), .bool (decide (b < a)), .bool false, .bool false, .bool false, .bool false, .bool (decide (x < y)), .bool (decide (y ≤ x)), .bool (decide (x ≤ y)), .bool (decide (y < x))])[m]? = some (.bool (sayF m a b x y)) := by
  rcases hm with rfl | rfl | rfl | rfl | rfl | rfl | rfl | rfl | rfl | rfl
  all_goals rfl
theorem Ask.range {m : Nat} (h : Ask m) : (2 ≤ m ∧ m < 8) ∨ (12 ≤ m ∧ m < 16) := by unfold Ask at h; omega
theorem not_ask {m : Nat} (hm : m < 16) (h : ¬ Ask m) : m < 2 ∨ (8 ≤ m ∧ m < 12) := by unfold Ask at h; omega
/-- Three new blocks: the first two of five cells. -/
theorem three_new (w : World) (c z s o p c2 z2 s2 o2 p2 : Value) (xs : Array Value) (t u : TypeId) (m : Nat) (v : Value) (hv : xs[m]? = some v) (W : World) (hW : W = ((w.alloc (.cells #[c, z, s, o, p] t)).alloc (.cells #[c2, z2, s2, o2, p2] t)).alloc (.cells xs u)) :
    Below W.heap.size W W ∧ W.cell? ⟨w.heap.size, 0, none⟩ = some c ∧ W.cell? ⟨w.heap.size, 1, none⟩ = some z ∧ W.cell? ⟨w.heap.size, 2, none⟩ = some s ∧ W.cell? ⟨w.heap.size, 3, none⟩ = some o ∧ W.cell? ⟨w.heap.size, 4, none⟩ = some p ∧ W.cell? ⟨w.heap.size + 1, 0, none⟩ = some c2 ∧ W.cell? ⟨w.heap.size + 1, 1, none⟩ = some z2 ∧ W.cell? ⟨w.heap.size + 1, 2, none⟩ = some s2 ∧ W.cell? ⟨w.heap.size + 1, 3, none⟩ = some o2 ∧ W.cell? ⟨w.heap.size + 1, 4, none⟩ = some p2 ∧ W.cell? ⟨w.heap.size + 1 + 1, m, none⟩ = some v := by
  subst hW
  refine ⟨Below.refl _ _, ?_⟩
  have l1 : w.heap.size < w.heap.size + 1 + 1 := by omega
  refine ⟨?_, ?_, ?_, ?_, ?_, ?_, ?_, ?_, ?_, ?_, ?_⟩
  all_goals simp [cell_alloc_lt, cell_new, hv, l1]
set_option maxHeartbeats 400000 in
set_option maxRecDepth 100000 in
theorem compares_law (a b n : Int) (w : World) (ha : 0 ≤ a ∧ a < 256) (hb : 0 ≤ b ∧ b < 256) :
    Calls Try.prog 6 #[.int .u8 a, .int .u8 b, .int .i64 n] w fun e w' => e = .returned (.bool true) ∧ Below w.heap.size w w' := by
  obtain ⟨x, hxs⟩ : ∃ x, sg a = x := ⟨_, rfl⟩
  obtain ⟨y, hys⟩ : ∃ y, sg b = y := ⟨_, rfl⟩
  have hx : IntKind.i8.wrap a = x := (sg_wrap ha).trans hxs
  have hy : IntKind.i8.wrap b = y := (sg_wrap hb).trans hys
  have hrx := sg_range ha
  have hry := sg_range hb
  rw [hxs] at hrx
  rw [hys] at hry
  obtain ⟨m, hm, hm16⟩ : ∃ m : Nat, n % 16 = m ∧ m < 16 := ⟨(n % 16).toNat, by omega, by omega⟩
  have HM := hid hm
  have HXS := hid hxs
  have HYS := hid hys
  have HA := hid ha
  have HB := hid hb
  have h16 : (m : Int) < 16 := by omega
  clear hm ha hb hxs hys
  go_enter Try.func6, Try.ntmps6
  go_wp2_with fail
  refine (awake_any _).mono ?_
  rintro e w1 ⟨rfl, hb1⟩
  have B1 := hid hb1
  clear hb1
  go_wp2_with fail
  refine (compared_raw a b x y hx hy hrx hry _).mono ?_
  rintro e w2 ⟨⟨p, rfl⟩, hb2⟩
  have B2 := hid (B1.out.trans (hb2.mono B1.out.size))
  clear hb2
  go_wp2_with fail
  refine (compared_raw b a y x hy hx hry hrx _).mono ?_
  rintro e w3 ⟨⟨q, rfl⟩, hb3⟩
  have B3 := hid (B2.out.trans (hb3.mono B2.out.size))
  clear hb3 B1 B2
  go_wp2_with fail
  refine (pick_any n 16 _ (by decide) (by unfold I64; omega)).mono ?_
  rw [HM.out]
  rintro e w4 ⟨rfl, rfl⟩
  have BF := hid (((B3.out.alloc B3.out.size (.cells #[.bool (decide (a < b)), .bool (a == b), .bool (sF a b), .bool (oF x y), .bool p] 23)).alloc (Nat.le_trans B3.out.size (by simp)) (.cells #[.bool (decide (b < a)), .bool (b == a), .bool (sF b a), .bool (oF y x), .bool q] 23)).alloc (Nat.le_trans B3.out.size (by simp; omega)) (.cells #[.bool false, .bool false, .bool (decide (a < b)), .bool (decide (b ≤ a)), .bool (a == b), .bool (a != b), .bool (decide (a ≤ b)), .bool (decide (b < a)), .bool false, .bool false, .bool false, .bool false, .bool (decide (x < y)), .bool (decide (y ≤ x)), .bool (decide (x ≤ y)), .bool (decide (y < x))] 4))
  by_cases hask : Ask m
  · obtain ⟨v, hv⟩ : ∃ v, sayF m a b x y = v := ⟨_, rfl⟩
    have H1 := hid (show holdsF (m : Int) (decide (a < b)) (a == b) (sF a b) (oF x y) p = v by rw [← hv, ← HXS.out, ← HYS.out]; exact cmp_holds hask a b p HA.out HB.out)
    have H2 := hid (show holdsF (swapF m) (decide (b < a)) (b == a) (sF b a) (oF y x) q = v by rw [← hv, ← HXS.out, ← HYS.out]; exact cmp_swaps hask a b q HA.out HB.out)
    have HN := hid (three_new w3 (.bool (decide (a < b))) (.bool (a == b)) (.bool (sF a b)) (.bool (oF x y)) (.bool p) (.bool (decide (b < a))) (.bool (b == a)) (.bool (sF b a)) (.bool (oF y x)) (.bool q) _ 23 4 m (.bool v) ((says_cell m hask a b x y).trans (by rw [hv])) _ rfl)
    have Hg := hid (show w3.heap.size < (((w3.alloc (.cells #[.bool (decide (a < b)), .bool (a == b), .bool (sF a b), .bool (oF x y), .bool p] 23)).alloc (.cells #[.bool (decide (b < a)), .bool (b == a), .bool (sF b a), .bool (oF y x), .bool q] 23)).alloc (.cells #[.bool false, .bool false, .bool (decide (a < b)), .bool (decide (b ≤ a)), .bool (a == b), .bool (a != b), .bool (decide (a ≤ b)), .bool (decide (b < a)), .bool false, .bool false, .bool false, .bool false, .bool (decide (x < y)), .bool (decide (y ≤ x)), .bool (decide (x ≤ y)), .bool (decide (y < x))] 4)).heap.size by simp; omega)
    have Hk := hid (show w3.heap.size + 1 < (((w3.alloc (.cells #[.bool (decide (a < b)), .bool (a == b), .bool (sF a b), .bool (oF x y), .bool p] 23)).alloc (.cells #[.bool (decide (b < a)), .bool (b == a), .bool (sF b a), .bool (oF y x), .bool q] 23)).alloc (.cells #[.bool false, .bool false, .bool (decide (a < b)), .bool (decide (b ≤ a)), .bool (a == b), .bool (a != b), .bool (decide (a ≤ b)), .bool (decide (b < a)), .bool false, .bool false, .bool false, .bool false, .bool (decide (x < y)), .bool (decide (y ≤ x)), .bool (decide (x ≤ y)), .bool (decide (y < x))] 4)).heap.size by simp)
    have Hh := hid (show w3.heap.size + 1 + 1 < (((w3.alloc (.cells #[.bool (decide (a < b)), .bool (a == b), .bool (sF a b), .bool (oF x y), .bool p] 23)).alloc (.cells #[.bool (decide (b < a)), .bool (b == a), .bool (sF b a), .bool (oF y x), .bool q] 23)).alloc (.cells #[.bool false, .bool false, .bool (decide (a < b)), .bool (decide (b ≤ a)), .bool (a == b), .bool (a != b), .bool (decide (a ≤ b)), .bool (decide (b < a)), .bool false, .bool false, .bool false, .bool false, .bool (decide (x < y)), .bool (decide (y ≤ x)), .bool (decide (x ≤ y)), .bool (decide (y < x))] 4)).heap.size by simp)
    generalize (((w3.alloc (.cells #[.bool (decide (a < b)), .bool (a == b), .bool (sF a b), .bool (oF x y), .bool p] 23)).alloc (.cells #[.bool (decide (b < a)), .bool (b == a), .bool (sF b a), .bool (oF y x), .bool q] 23)).alloc (.cells #[.bool false, .bool false, .bool (decide (a < b)), .bool (decide (b ≤ a)), .bool (a == b), .bool (a != b), .bool (decide (a ≤ b)), .bool (decide (b < a)), .bool false, .bool false, .bool false, .bool false, .bool (decide (x < y)), .bool (decide (y ≤ x)), .bool (decide (x ≤ y)), .bool (decide (y < x))] 4)) = W at *
    generalize w3.heap.size = g at *
    obtain ⟨k, hk⟩ : ∃ k, g + 1 = k := ⟨_, rfl⟩
    rw [hk] at HN Hk Hh ⊢
    obtain ⟨h, hh⟩ : ∃ h, k + 1 = h := ⟨_, rfl⟩
    rw [hh] at HN Hh ⊢
    clear hk hh
    have hS := HN.out
    have hzg := Hg.out
    have hzk := Hk.out
    have hzh := Hh.out
    have HR := hid hask.range
    have h1 : ¬ (m : Int) < 2 := by have := HR.out; omega
    have e0 : (0 : Int) ≤ (m : Int) := by omega
    clear hask HN B3
    rcases HR.out with ⟨h2, h3⟩ | ⟨h2, h3⟩
    · have h5 : ¬ (8 : Int) ≤ (m : Int) := by omega
      clear h2 h3
      go_wp2_with fail
      go_region_held3 (fun w' => Below W.heap.size W w' ∧ w'.cell? ⟨g, 0, none⟩ = some (.bool (decide (a < b))) ∧ w'.cell? ⟨g, 1, none⟩ = some (.bool (a == b)) ∧ w'.cell? ⟨g, 2, none⟩ = some (.bool (sF a b)) ∧ w'.cell? ⟨g, 3, none⟩ = some (.bool (oF x y)) ∧ w'.cell? ⟨g, 4, none⟩ = some (.bool p) ∧ w'.cell? ⟨k, 0, none⟩ = some (.bool (decide (b < a))) ∧ w'.cell? ⟨k, 1, none⟩ = some (.bool (b == a)) ∧ w'.cell? ⟨k, 2, none⟩ = some (.bool (sF b a)) ∧ w'.cell? ⟨k, 3, none⟩ = some (.bool (oF y x)) ∧ w'.cell? ⟨k, 4, none⟩ = some (.bool q) ∧ w'.cell? ⟨h, m, none⟩ = some (.bool v)) (first | assumption | exact boxed11_drew ‹_› | (refine boxed11 ?_ (by assumption) hzg hzk hzh; assumption))
        (first | (go_at_call 17; with_reducible refine (swap_any _ _).mono ?_; rintro e w2 ⟨rfl, rfl⟩) | (go_at_call 19; with_reducible refine (holds_of H1.out _).mono ?_; rintro e w2 ⟨rfl, hbel⟩) | (go_at_call 19; with_reducible refine (holds_of H2.out _).mono ?_; rintro e w2 ⟨rfl, hbel⟩))
      have hkk := (‹Below W.heap.size W _ ∧ _ ∧ _›).1
      go_wp2
      go_ret
      exact ⟨by cases v <;> rfl, BF.out.trans (hkk.mono BF.out.size)⟩
    · have h5 : (8 : Int) ≤ (m : Int) := by omega
      have h6 : ¬ (m : Int) < 12 := by omega
      clear h2 h3
      go_wp2_with fail
      go_region_held3 (fun w' => Below W.heap.size W w' ∧ w'.cell? ⟨g, 0, none⟩ = some (.bool (decide (a < b))) ∧ w'.cell? ⟨g, 1, none⟩ = some (.bool (a == b)) ∧ w'.cell? ⟨g, 2, none⟩ = some (.bool (sF a b)) ∧ w'.cell? ⟨g, 3, none⟩ = some (.bool (oF x y)) ∧ w'.cell? ⟨g, 4, none⟩ = some (.bool p) ∧ w'.cell? ⟨k, 0, none⟩ = some (.bool (decide (b < a))) ∧ w'.cell? ⟨k, 1, none⟩ = some (.bool (b == a)) ∧ w'.cell? ⟨k, 2, none⟩ = some (.bool (sF b a)) ∧ w'.cell? ⟨k, 3, none⟩ = some (.bool (oF y x)) ∧ w'.cell? ⟨k, 4, none⟩ = some (.bool q) ∧ w'.cell? ⟨h, m, none⟩ = some (.bool v)) (first | assumption | exact boxed11_drew ‹_› | (refine boxed11 ?_ (by assumption) hzg hzk hzh; assumption))
        (first | (go_at_call 17; with_reducible refine (swap_any _ _).mono ?_; rintro e w2 ⟨rfl, rfl⟩) | (go_at_call 19; with_reducible refine (holds_of H1.out _).mono ?_; rintro e w2 ⟨rfl, hbel⟩) | (go_at_call 19; with_reducible refine (holds_of H2.out _).mono ?_; rintro e w2 ⟨rfl, hbel⟩))
      have hkk := (‹Below W.heap.size W _ ∧ _ ∧ _›).1
      go_wp2
      go_ret
      exact ⟨by cases v <;> rfl, BF.out.trans (hkk.mono BF.out.size)⟩
  · rcases not_ask hm16 hask with h2 | ⟨h2, h3⟩
    · have h4 : (m : Int) < 2 := by omega
      clear hask
      go_wp2_with fail
      go_ret
      exact ⟨rfl, BF.out⟩
    · have h4 : ¬ (m : Int) < 2 := by omega
      have h5 : (8 : Int) ≤ m := by omega
      have h6 : (m : Int) < 12 := by omega
      clear hask
      go_wp2_with fail
      go_ret
      exact ⟨rfl, BF.out⟩
end Go.Proofs.Ytaofkklpbjpjlaa
