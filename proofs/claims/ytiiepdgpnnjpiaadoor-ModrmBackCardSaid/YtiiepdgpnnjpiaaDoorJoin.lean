/-
  The small functions of package modrm: bytes of three fields joined and split; how often 2 divides a scale; a register of R64.
-/
import Derived.Test.YtiiepdgpnnjpiaaDoorWays
import Derived.Lib.LaidTab
namespace Go.Proofs.YtiiepdgpnnjpiaaDoor
open Go.RowKit
set_option maxRecDepth 100000

theorem join_nat : ∀ h : Fin 4, ∀ m l : Fin 8, bits .or .i64 (bits .or .i64 (64 * (h.val : Int)) (8 * (m.val : Int))) (l.val : Int) % 256 = 64 * (h.val : Int) + 8 * (m.val : Int) + (l.val : Int) := by decide +kernel
theorem join_bits (h m l : Int) (hh : 0 ≤ h ∧ h ≤ 3) (hm : 0 ≤ m ∧ m ≤ 7) (hl : 0 ≤ l ∧ l ≤ 7) :
    bits .or .i64 (bits .or .i64 (64 * h) (8 * m)) l % 256 = 64 * h + 8 * m + l := by
  obtain ⟨a, rfl⟩ := Int.eq_ofNat_of_zero_le hh.1
  obtain ⟨b, rfl⟩ := Int.eq_ofNat_of_zero_le hm.1
  obtain ⟨c, rfl⟩ := Int.eq_ofNat_of_zero_le hl.1
  exact join_nat ⟨a, by omega⟩ ⟨b, by omega⟩ ⟨c, by omega⟩
theorem join_any (h m l : Int) (hh : 0 ≤ h ∧ h ≤ 3) (hm : 0 ≤ m ∧ m ≤ 7) (hl : 0 ≤ l ∧ l ≤ 7) (w : World) :
    Calls Tryd.prog 43 #[.int .i64 h, .int .i64 m, .int .i64 l] w fun e w' => e = .returned (.int .u8 (64 * h + 8 * m + l)) ∧ w = w' := by
  have H := hid (join_bits h m l hh hm hl)
  have e1 : wrap64 (h * 64) = 64 * h := by rw [Int.mul_comm]; exact IntWalk.wrap64_in _ ⟨by omega, by omega⟩
  have e2 : wrap64 (m * 8) = 8 * m := by rw [Int.mul_comm]; exact IntWalk.wrap64_in _ ⟨by omega, by omega⟩
  have E1 := hid e1; have E2 := hid e2
  clear hh hm hl e1 e2
  go_enter Tryd.func43, Tryd.ntmps43
  go_wp2
  go_ret
  refine ⟨ret_i ?_, rfl⟩
  rw [E1.out, E2.out, H.out]
theorem split_nat : ∀ n : Fin 256, bits .and .i64 ((n.val : Int) / 8) 7 = (n.val : Int) / 8 % 8 ∧ bits .and .i64 (n.val : Int) 7 = (n.val : Int) % 8 := by decide +kernel
theorem split_any (n : Int) (hn : 0 ≤ n ∧ n < 256) (w : World) :
    Calls Tryd.prog 58 #[.int .i64 n] w fun e w' => e = .returned (.tuple #[.int .i64 (n / 64), .int .i64 (n / 8 % 8), .int .i64 (n % 8)]) ∧ w = w' := by
  have H : bits .and .i64 (n / 8) 7 = n / 8 % 8 ∧ bits .and .i64 n 7 = n % 8 := by
    obtain ⟨a, rfl⟩ := Int.eq_ofNat_of_zero_le hn.1
    exact split_nat ⟨a, by omega⟩
  have H' := hid H
  clear H
  go_enter Tryd.func58, Tryd.ntmps58
  go_wp2
  go_ret3
  refine ⟨?_, rfl⟩
  rw [H'.out.1, H'.out.2]
  rfl
theorem bit_any (n : Int) (w : World) :
    Calls Tryd.prog 33 #[.int .i64 n] w fun e w' => e = .returned (.bool (n == 0 || n == 1)) ∧ w = w' := by
  go_enter Tryd.func33, Tryd.ntmps33
  go_wp2
  all_goals (go_ret; exact ⟨ret_b (by simp_all), rfl⟩)
theorem mwide_any (h l : Int) (hh : 0 ≤ h ∧ h ≤ 1) (hl : 0 ≤ l ∧ l ≤ 7) (w : World) :
    Calls Tryd.prog 89 #[.int .i64 h, .int .i64 l] w fun e w' => e = .returned (.agg #[.int .i64 5, .int .i64 (8 * h + l)]) ∧ Below w.heap.size w w' := by
  go_enter Tryd.func89, Tryd.ntmps89
  go_wp2
  go_returns
  exact ⟨rfl, by go_grown⟩

/-! ### how often 2 divides a scale -/
/-- What of the library's table is read. -/
def Tz (w : World) : Prop := w.cell? ⟨1, 0, none⟩ = some (.int .u8 0) ∧ w.cell? ⟨1, 1, none⟩ = some (.int .u8 1) ∧ w.cell? ⟨1, 3, none⟩ = some (.int .u8 2) ∧ w.cell? ⟨1, 7, none⟩ = some (.int .u8 3)
theorem Tz.turn {w w' : World} (h : Tz w) (hb : w'.heap[(1 : Nat)]? = w.heap[(1 : Nat)]?) : Tz w' := by
  have := fun j => World.cell?_of_block (a := ⟨1, j, none⟩) hb
  exact ⟨(this 0).trans h.1, (this 1).trans h.2.1, (this 3).trans h.2.2.1, (this 7).trans h.2.2.2⟩
theorem Tz.lt {w : World} (h : Tz w) : (1 : Nat) < w.heap.size := World.block_lt_of_cell? w _ h.1
theorem Tz.below {w w' : World} (h : Tz w) (hb : Below w.heap.size w w') : Tz w' := h.turn (hb.block _ h.lt)
theorem tz64_any (s : Int) (hs : s = 1 ∨ s = 2 ∨ s = 4 ∨ s = 8) (w : World) (ht : Tz w) :
    Calls Tryd.prog 100 #[.int .u64 s] w fun e w' => e = .returned (.int .i64 (shiftF s)) ∧ w = w' := by
  obtain ⟨h0, h1, h3, h7⟩ := ht
  have k1 : IntKind.u64.wrap (bits BinOp.and IntKind.u64 1 (IntKind.u64.wrap (-1)) * 285870213051353865) / 288230376151711744 = 0 := by decide +kernel
  have k2 : IntKind.u64.wrap (bits BinOp.and IntKind.u64 2 (IntKind.u64.wrap (-2)) * 285870213051353865) / 288230376151711744 = 1 := by decide +kernel
  have k4 : IntKind.u64.wrap (bits BinOp.and IntKind.u64 4 (IntKind.u64.wrap (-4)) * 285870213051353865) / 288230376151711744 = 3 := by decide +kernel
  have k8 : IntKind.u64.wrap (bits BinOp.and IntKind.u64 8 (IntKind.u64.wrap (-8)) * 285870213051353865) / 288230376151711744 = 7 := by decide +kernel
  rcases hs with rfl | rfl | rfl | rfl
  all_goals
    go_enter Tryd.func100, Tryd.ntmps100
    go_wp2
    go_ret
    exact ⟨rfl, rfl⟩
theorem tz_any (s : Int) (hs : s = 1 ∨ s = 2 ∨ s = 4 ∨ s = 8) (w : World) (ht : Tz w) :
    Calls Tryd.prog 92 #[.int .u64 s] w fun e w' => e = .returned (.int .i64 (shiftF s)) ∧ w = w' := by
  have HT := hid ht
  have HS := hid hs
  clear ht hs
  go_enter Tryd.func92, Tryd.ntmps92
  go_wp2_with (go_at_call 100; refine (tz64_any s HS.out _ HT.out).mono ?_; rintro e w' ⟨rfl, rfl⟩)
  go_ret
  exact ⟨rfl, rfl⟩
end Go.Proofs.YtiiepdgpnnjpiaaDoor
