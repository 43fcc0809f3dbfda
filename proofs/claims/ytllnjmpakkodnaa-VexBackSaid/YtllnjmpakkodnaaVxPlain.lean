/-
  Plain facts on VEX: its contents, their bytes, what bytes tell. Nothing of the program is in it.
-/
import Derived.Test.YtllnjmpakkodnaaBMem
import Derived.Laws.BitsLemmas
namespace Go.Proofs.Ytllnjmpakkodnaa
open Go.RowKit

/-- The contents of a VEX. -/
structure Vx where
  r : Int
  x : Int
  b : Int
  m : Int
  w : Int
  v : Int
  l : Int
  p : Int
deriving DecidableEq
abbrev VV (q : Vx) : Value := .agg #[.int .i64 q.r, .int .i64 q.x, .int .i64 q.b, .int .i64 q.m, .int .i64 q.w, .int .i64 q.v, .int .i64 q.l, .int .i64 q.p]
def bitF (n : Int) : Bool := n == 0 || n == 1
def mapF (n : Int) : Bool := decide (1 ≤ n) && decide (n ≤ 3)
def preOk (n : Int) : Bool := n == 0 || n == 1 || n == 4 || n == 2
def okF (q : Vx) : Bool := bitF q.r && bitF q.x && bitF q.b && bitF q.w && bitF q.l && mapF q.m && (decide (0 ≤ q.v) && decide (q.v ≤ 15)) && preOk q.p
def errF (q : Vx) : Int := if okF q then 0 else 2
/-- The number of a prefix, and the prefix of a number. -/
def ppF (n : Int) : Int := if n = 1 then 1 else if n = 4 then 2 else if n = 2 then 3 else 0
def preF (n : Int) : Int := if n = 1 then 1 else if n = 2 then 4 else if n = 3 then 2 else 0
def twoB (q : Vx) : List Int := [197, 128 * (1 - q.r) + 8 * (15 - q.v) + 4 * q.l + ppF q.p]
def threeB (q : Vx) (w : Int) : List Int := [196, 128 * (1 - q.r) + 64 * (1 - q.x) + 32 * (1 - q.b) + q.m, 128 * w + 8 * (15 - q.v) + 4 * q.l + ppF q.p]
/-- Is it laid with two bytes, too? -/
def shortF (q : Vx) (w : Int) : Bool := q.x == 0 && q.b == 0 && w == 0 && q.m == 1
def wF (q : Vx) (any : Bool) : Int := if any then 0 else q.w
def waysF (q : Vx) (any : Bool) : List (List Int) :=
  if okF q then (if shortF q (wF q any) then [twoB q] else []) ++ [threeB q (wF q any)] ++ (if any then [threeB q 1] else []) else []
abbrev V0 : Vx := ⟨0, 0, 0, 0, 0, 0, 0, 0⟩
/-- What bytes tell: contents, how many bytes, the error. -/
def readF : List Int → Vx × Int × Int
  | [] => (V0, 0, 9)
  | [z] => if z = 196 ∨ z = 197 then (V0, 0, 9) else (V0, 0, 4)
  | [z, n] => if z = 197 then (⟨1 - n / 128, 0, 0, 1, 0, 15 - n / 8 % 16, n / 4 % 2, preF (n % 4)⟩, 2, 0) else
      if z = 196 then (if n % 32 < 1 ∨ 3 < n % 32 then (V0, 0, 4) else (V0, 0, 9)) else (V0, 0, 4)
  | z :: n :: m :: _ => if z = 197 then (⟨1 - n / 128, 0, 0, 1, 0, 15 - n / 8 % 16, n / 4 % 2, preF (n % 4)⟩, 2, 0) else
      if z = 196 then (if n % 32 < 1 ∨ 3 < n % 32 then (V0, 0, 4) else
        (⟨1 - n / 128, 1 - n / 64 % 2, 1 - n / 32 % 2, n % 32, m / 128, 15 - m / 8 % 16, m / 4 % 2, preF (m % 4)⟩, 3, 0)) else (V0, 0, 4)
abbrev RV (a : Vx × Int × Int) : Value := .tuple #[VV a.1, .int .i64 a.2.1, .int .i64 a.2.2]

/-! ### bits -/
theorem bitF_iff {n : Int} : bitF n = true ↔ n = 0 ∨ n = 1 := by simp [bitF]
theorem preOk_iff {n : Int} : preOk n = true ↔ n = 0 ∨ n = 1 ∨ n = 4 ∨ n = 2 := by simp [preOk, or_assoc]
theorem mapF_iff {n : Int} : mapF n = true ↔ 1 ≤ n ∧ n ≤ 3 := by simp [mapF]
theorem ok_parts {q : Vx} (h : okF q = true) : (q.r = 0 ∨ q.r = 1) ∧ (q.x = 0 ∨ q.x = 1) ∧ (q.b = 0 ∨ q.b = 1) ∧ (q.w = 0 ∨ q.w = 1) ∧ (q.l = 0 ∨ q.l = 1) ∧ (1 ≤ q.m ∧ q.m ≤ 3) ∧ (0 ≤ q.v ∧ q.v ≤ 15) ∧ (q.p = 0 ∨ q.p = 1 ∨ q.p = 4 ∨ q.p = 2) := by
  simpa [okF, bitF, mapF, preOk, and_assoc, or_assoc] using h
theorem ok_of {q : Vx} (h : (q.r = 0 ∨ q.r = 1) ∧ (q.x = 0 ∨ q.x = 1) ∧ (q.b = 0 ∨ q.b = 1) ∧ (q.w = 0 ∨ q.w = 1) ∧ (q.l = 0 ∨ q.l = 1) ∧ (1 ≤ q.m ∧ q.m ≤ 3) ∧ (0 ≤ q.v ∧ q.v ≤ 15) ∧ (q.p = 0 ∨ q.p = 1 ∨ q.p = 4 ∨ q.p = 2)) : okF q = true := by
  simpa [okF, bitF, mapF, preOk, and_assoc, or_assoc] using h
theorem ppF_range (n : Int) : 0 ≤ ppF n ∧ ppF n ≤ 3 := by unfold ppF; split; omega; split; omega; split <;> omega
theorem preF_pp {n : Int} (h : n = 0 ∨ n = 1 ∨ n = 4 ∨ n = 2) : preF (ppF n) = n := by rcases h with rfl | rfl | rfl | rfl <;> rfl
theorem pp_preF {n : Int} (h : 0 ≤ n ∧ n ≤ 3) : ppF (preF n) = n ∧ (preF n = 0 ∨ preF n = 1 ∨ preF n = 4 ∨ preF n = 2) := by
  have : n = 0 ∨ n = 1 ∨ n = 2 ∨ n = 3 := by omega
  rcases this with rfl | rfl | rfl | rfl <;> decide
theorem wraps_i64 (n : Int) (h₀ : 0 ≤ n) (h₁ : n < 2 ^ 63) : IntKind.i64.wrap n = n := by rw [IntKind.wrap_i64]; omega
/-- A field put below those that are there. -/
theorem or_low (n v : Int) (k : Nat) (hk : k ≤ 20) (h0 : 0 ≤ n) (h1 : n ≤ 65535) (h2 : 0 ≤ v) (h3 : v < 2 ^ k) : bits .or .i64 (n * 2 ^ k) v = n * 2 ^ k + v := by
  have hp : (0 : Int) < 2 ^ k := Int.pow_pos (by decide)
  have h20 : (2 : Int) ^ k ≤ 2 ^ 20 := pow_le k 20 hk
  have hn : n * 2 ^ k ≤ 65535 * 2 ^ 20 := Int.mul_le_mul h1 h20 (by omega) (by omega)
  have h20' : (2 : Int) ^ 20 = 1048576 := rfl
  have h63 : (2 : Int) ^ 63 = 9223372036854775808 := rfl
  refine bits_join .i64 63 (by decide) wraps_i64 k _ _ (Int.mul_nonneg h0 (by omega)) (Int.mul_emod_left _ _) (by omega) h2 h3 (by omega)
theorem and_low (n : Int) (k : Nat) (hk : k ≤ 20) (h0 : 0 ≤ n) (h1 : n ≤ 65535) : bits .and .i64 n (2 ^ k - 1) = n % 2 ^ k :=
  bits_mask .i64 63 (by decide) wraps_i64 k (by omega) n h0 (by have h63 : (2 : Int) ^ 63 = 9223372036854775808 := rfl; omega)
theorem xor_nat (a b : Nat) (ha : a < 65536) (hb : b < 65536) : bits .xor .i64 (a : Int) (b : Int) = ((a ^^^ b : Nat) : Int) := by
  have hx : a ^^^ b < 2 ^ 16 := Nat.xor_lt_two_pow (by omega) (by omega)
  have e : ∀ n : Nat, n < 65536 → (BitVec.ofInt 64 (n : Int)).toNat = n := fun n hn => by
    rw [BitVec.ofInt_natCast, BitVec.toNat_ofNat]; exact Nat.mod_eq_of_lt (by omega)
  show IntKind.i64.wrap ((BitVec.ofInt 64 (a : Int) ^^^ BitVec.ofInt 64 (b : Int)).toNat : Int) = _
  rw [BitVec.toNat_xor, e a ha, e b hb]
  exact wraps_i64 _ (by omega) (by have h63 : (2 : Int) ^ 63 = 9223372036854775808 := rfl; omega)
theorem turn_8 : ∀ n : Fin 256, (n.val ^^^ 248 = (31 - n.val / 8) * 8 + n.val % 8) ∧ (n.val ^^^ 224 = (7 - n.val / 32) * 32 + n.val % 32) ∧ (n.val ^^^ 120 = n.val / 128 * 128 + (15 - n.val / 8 % 16) * 8 + n.val % 8) := by decide +kernel
theorem xor_two (n : Int) (h : 0 ≤ n ∧ n < 256) : bits .xor .i64 n 248 = (31 - n / 8) * 8 + n % 8 := by
  obtain ⟨a, rfl⟩ := Int.eq_ofNat_of_zero_le h.1
  have ha : a < 256 := by omega
  have e := xor_nat a 248 (by omega) (by decide)
  rw [(turn_8 ⟨a, ha⟩).1] at e
  refine e.trans ?_
  simp only []
  omega
theorem xor_three (n : Int) (h : 0 ≤ n ∧ n < 65536) : bits .xor .i64 n 57464 = ((7 - n / 256 / 32) * 32 + n / 256 % 32) * 256 + (n % 256 / 128 * 128 + (15 - n % 256 / 8 % 16) * 8 + n % 256 % 8) := by
  obtain ⟨a, rfl⟩ := Int.eq_ofNat_of_zero_le h.1
  have ha : a < 65536 := by omega
  have e := xor_nat a 57464 (by omega) (by decide)
  have e1 : (a ^^^ 57464) / 2 ^ 8 = a / 2 ^ 8 ^^^ 224 := Nat.xor_div_two_pow
  have e2 : (a ^^^ 57464) % 2 ^ 8 = a % 2 ^ 8 ^^^ 120 := Nat.xor_mod_two_pow
  have h1 := (turn_8 ⟨a / 256, by omega⟩).2.1
  have h2 := (turn_8 ⟨a % 256, by omega⟩).2.2
  simp only [Nat.reducePow] at e1 e2 h1 h2
  rw [h1] at e1
  rw [h2] at e2
  refine e.trans ?_
  omega
end Go.Proofs.Ytllnjmpakkodnaa
