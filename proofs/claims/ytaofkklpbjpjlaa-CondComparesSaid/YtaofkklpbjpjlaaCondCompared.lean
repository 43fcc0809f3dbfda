/-
  The flags behind a comparison of two bytes.
-/
import Derived.Test.YtaofkklpbjpjlaaCondNamed
namespace Go.Proofs.Ytaofkklpbjpjlaa
open Go.RowKit

/-- A byte as it is with a sign. -/
def sg (a : Int) : Int := if a < 128 then a else a - 256
theorem sg_wrap {a : Int} (ha : 0 ≤ a ∧ a < 256) : IntKind.i8.wrap a = sg a := by
  have hm : a % 2 ^ 8 = a := by omega
  simp only [IntKind.wrap, IntKind.signed, IntKind.bits, sg, hm, Bool.true_and, decide_eq_true_eq, ge_iff_le]
  by_cases h : a < 128
  · rw [if_neg (by omega), if_pos h]
  · rw [if_pos (by omega), if_neg h]; omega
theorem sg_range {a : Int} (ha : 0 ≤ a ∧ a < 256) : -128 ≤ sg a ∧ sg a ≤ 127 := by unfold sg; split <;> omega
def sF (a b : Int) : Bool := decide (127 < (a - b) % 256)
def oF (x y : Int) : Bool := decide (x - y < -128) || decide (127 < x - y)
def Cmp (a b x y : Int) (e : Ending) : Prop := ∃ p, e = .returned (FL (decide (a < b)) (a == b) (sF a b) (oF x y) p)
set_option maxHeartbeats 400000 in
theorem compared_raw (a b x y : Int) (hx : IntKind.i8.wrap a = x) (hy : IntKind.i8.wrap b = y) (hrx : -128 ≤ x ∧ x ≤ 127) (hry : -128 ≤ y ∧ y ≤ 127) (w : World) :
    Calls Try.prog 22 #[.int .u8 a, .int .u8 b] w fun e w' => Cmp a b x y e ∧ Below w.heap.size w w' := by
  have h1 : wrap64 x = x := IntWalk.wrap64_in _ ⟨by omega, by omega⟩
  have h2 : wrap64 y = y := IntWalk.wrap64_in _ ⟨by omega, by omega⟩
  have h3 : wrap64 (x - y) = x - y := IntWalk.wrap64_in _ ⟨by omega, by omega⟩
  go_enter Try.func22, Try.ntmps22
  go_wp2
  go_loopw [7, 8] (fun q i wr => ∃ k : Nat, ∃ t : Bool, k ≤ 8 ∧ i = .int .i64 k ∧ q = .bool t ∧ w.alloc (.cells #[.bool false, .bool false, .bool false, .bool false, .bool false] 23) = wr) (fun _ i _ => 8 - (intOf i).toNat)
  case atStart => exact ⟨0, true, by omega, rfl, rfl, rfl⟩
  case round =>
    obtain ⟨k, t, hk, rfl, rfl, rfl⟩ := hrel
    by_cases hlt : k < 8
    · go_wp2
      go_roundw
      case rel => exact ⟨k + 1, _, by omega, by go_num, rfl, trivial⟩
      case measure => simp [intOf]; omega
    · by_cases h4 : x - y < -128
      · have HO := hid (show oF x y = true by simp [oF, h4])
        go_wp2
        refine bodyPost_ret (v := FL (decide (a < b)) (a == b) (sF a b) true t) (by simp [results, Try.results22, go_sem, sF]) rfl ⟨⟨t, by rw [HO.out]⟩, by go_grown⟩
      · by_cases h5 : 127 < x - y
        · have HO := hid (show oF x y = true by simp [oF, h5])
          go_wp2
          refine bodyPost_ret (v := FL (decide (a < b)) (a == b) (sF a b) true t) (by simp [results, Try.results22, go_sem, sF]) rfl ⟨⟨t, by rw [HO.out]⟩, by go_grown⟩
        · have HO := hid (show oF x y = false by simp [oF]; omega)
          go_wp2
          refine bodyPost_ret (v := FL (decide (a < b)) (a == b) (sF a b) false t) (by simp [results, Try.results22, go_sem, sF]) rfl ⟨⟨t, by rw [HO.out]⟩, by go_grown⟩
theorem compared_any (a b : Int) (ha : 0 ≤ a ∧ a < 256) (hb : 0 ≤ b ∧ b < 256) (w : World) :
    Calls Try.prog 22 #[.int .u8 a, .int .u8 b] w fun e w' => Cmp a b (sg a) (sg b) e ∧ Below w.heap.size w w' :=
  compared_raw a b _ _ (sg_wrap ha) (sg_wrap hb) (sg_range ha) (sg_range hb) w
end Go.Proofs.Ytaofkklpbjpjlaa
