/-
  Literals, plainly: bytes of a string as numbers; words, their digits, what a literal reads as. Nothing of the program is in it.
-/
import Derived.Test.YtllnjmpakkodnaaNum
import Derived.Laws.BytesArg
namespace Go.Proofs.Ytllnjmpakkodnaa
open Go.RowKit

/-! ### bytes of a string -/
/-- A string's bytes as numbers. -/
def nums (s : ByteArray) : List Int := s.data.toList.map fun b => (b.toNat : Int)
theorem nums_length (s : ByteArray) : (nums s).length = s.size := by unfold nums; rw [List.length_map]; rfl
/-- Byte k of a string; 0 behind its end. -/
def ch (s : ByteArray) (k : Nat) : Int := (nums s)[k]?.getD 0
theorem get_ch (s : ByteArray) : ∀ (n : Nat) (h : n < s.size), ((s[n]'h).toNat : Int) = ch s n := fun n h => by
  unfold ch nums
  rw [List.getElem?_map, Array.getElem?_toList, Array.getElem?_eq_getElem (by exact h)]
  rfl
theorem nums_range (s : ByteArray) : ∀ z ∈ nums s, 0 ≤ z ∧ z < 256 := by
  intro z hz
  simp only [nums, List.mem_map] at hz
  obtain ⟨b, _, rfl⟩ := hz
  have := b.toNat_lt
  omega
theorem ch_range (s : ByteArray) (k : Nat) : 0 ≤ ch s k ∧ ch s k < 256 := by
  unfold ch
  rcases Nat.lt_or_ge k (nums s).length with h | h
  · rw [List.getElem?_eq_getElem h]; exact nums_range s _ (List.getElem_mem h)
  · rw [List.getElem?_eq_none h]; simp
theorem nums_inj {s t : ByteArray} (h : nums s = nums t) : s = t := by
  have e : s.data.toList = t.data.toList := by
    have := congrArg (List.map fun z : Int => UInt8.ofNat z.toNat) h
    simpa [nums, List.map_map, Function.comp_def] using this
  have e2 := Array.toList_inj.1 e
  cases s; cases t; simp_all
theorem nums_append (s t : ByteArray) : nums (s ++ t) = nums s ++ nums t := by
  simp [nums, ByteArray.data_append]
theorem nums_extract (s : ByteArray) (a b : Nat) : nums (s.extract a b) = ((nums s).take b).drop a := by
  simp [nums, ByteArray.data_extract, List.map_drop, List.map_take, List.drop_take]
theorem nums_str (xs : List Int) (h : ∀ z ∈ xs, 0 ≤ z ∧ z < 256) : nums (strOfNums xs) = xs := by
  unfold nums
  rw [strOfNums_data, List.map_map]
  conv => rhs; rw [← List.map_id xs]
  refine List.map_congr_left fun z hz => ?_
  have := h z hz
  simp
  omega
theorem ch_extract (s : ByteArray) (a b k : Nat) (h : a + k < b) : ch (s.extract a b) k = ch s (a + k) := by
  unfold ch
  rw [nums_extract, List.getElem?_drop, List.getElem?_take, if_pos h]
theorem drop_ch (s : ByteArray) (k : Nat) (h : k < s.size) : (nums s).drop k = ch s k :: (nums s).drop (k + 1) := by
  have hl : k < (nums s).length := by rw [nums_length]; exact h
  unfold ch
  rw [List.getElem?_eq_getElem hl]
  exact List.drop_eq_getElem_cons hl

/-! ### words -/
/-- A word character. -/
def isW (c : Int) : Bool := (decide (48 ≤ c) && decide (c ≤ 57)) || (decide (97 ≤ c) && decide (c ≤ 122)) || (decide (65 ≤ c) && decide (c ≤ 90)) || c == 95
/-- What a byte counts as a digit; 16: as none. -/
def dval (c : Int) : Int := if 48 ≤ c ∧ c ≤ 57 then c - 48 else if 97 ≤ c ∧ c ≤ 102 then c - 87 else if 65 ≤ c ∧ c ≤ 70 then c - 55 else 16
theorem dval_range (c : Int) : 0 ≤ dval c ∧ dval c ≤ 16 := by unfold dval; split <;> (try split) <;> (try split) <;> omega
/-- How many word characters a list begins with. -/
def run : List Int → Nat
  | [] => 0
  | c :: r => if isW c then run r + 1 else 0
theorem run_le (l : List Int) : run l ≤ l.length := by
  induction l with
  | nil => simp [run]
  | cons c r ih => simp only [run, List.length_cons]; split <;> omega
theorem run_all (l r : List Int) (h : ∀ c ∈ l, isW c = true) (hr : run r = 0) : run (l ++ r) = l.length := by
  induction l with
  | nil => simpa using hr
  | cons c t ih => simp [run, h c (by simp), ih (fun c hc => h c (by simp [hc]))]
theorem run_take (l : List Int) : ∀ c ∈ l.take (run l), isW c = true := by
  induction l with
  | nil => simp
  | cons c r ih =>
    intro d hd
    by_cases hc : isW c = true
    · simp only [run, hc, if_true, List.take_succ_cons, List.mem_cons] at hd
      rcases hd with rfl | hd
      · exact hc
      · exact ih d hd
    · simp [run, hc] at hd
/-- The base of a word, from where to where its digits stand in it. -/
def note (w : List Int) : Int × Nat × Nat :=
  let n := w.length
  let c1 := w[1]?.getD 0
  let l := w[n - 1]?.getD 0
  let z := decide (2 < n) && w[0]?.getD 0 == 48
  if z && (c1 == 120 || c1 == 88) then (16, 2, n)
  else if l == 104 || l == 72 then (16, 0, n - 1)
  else if z && (c1 == 98 || c1 == 66) then (2, 2, n)
  else if z && (c1 == 111 || c1 == 79) then (8, 2, n)
  else (10, 0, n)
/-- The number of digits of a base, modulo 2^64; whether it is above; the place of the first byte that is wrong (-1: none). -/
def dig (b : Int) : Int → Int → Bool → Nat → List Int → Int × Bool × Int
  | _, n, ab, _, [] => (n, ab, -1)
  | p, n, ab, k, c :: r =>
    if c = 95 ∧ p ≠ 95 ∧ r ≠ [] then dig b c n ab (k + 1) r
    else if b ≤ dval c then (0, false, k)
    else dig b c ((n * b + dval c) % 18446744073709551616) (ab || decide ((18446744073709551615 - dval c) / b < n)) (k + 1) r

/-- What a literal reads as: the number, where it ends, the error, its place. -/
abbrev R := Int × Int × Int × Int
abbrev fault (e a : Int) : R := (0, 0, e, a)
def scanW (xs : List Int) (a : Nat) : R :=
  let e := a + run (xs.drop a)
  let w := (xs.take e).drop a
  let o := note w
  let d := dig o.1 95 0 false 0 ((w.take o.2.2).drop o.2.1)
  if 0 ≤ d.2.2 then fault 4 (a + o.2.1 + d.2.2) else if d.2.1 then fault 5 a else (wrap64 d.1, e, 0, 0)
/-- The literal of a text, from its byte k on. -/
def txt (a full : Nat) : Nat → Int → List Int → R
  | _, _, [] => fault 4 full
  | k, n, c :: r =>
    if c = 39 ∧ 0 < k then (n, a + 1 + k + 1, 0, 0)
    else if c = 39 ∨ c < 32 ∨ 126 < c then fault 4 (a + 1 + k)
    else if k = 8 then fault 3 (a + 1 + k)
    else txt a full (k + 1) (wrap64 (n + c * 2 ^ (8 * k))) r
def scanT (xs : List Int) (a : Nat) : R := txt a xs.length 0 0 (xs.drop (a + 1))
def scan (xs : List Int) (at_ : Int) : R :=
  if at_ < 0 then fault 6 0
  else if (xs.length : Int) ≤ at_ then fault 6 at_
  else if xs[at_.toNat]?.getD 0 = 39 then scanT xs at_.toNat
  else if dval (xs[at_.toNat]?.getD 0) < 10 then scanW xs at_.toNat
  else fault 6 at_
/-- How a function of the program tells it. -/
abbrev R.val (r : R) : Value := .tuple #[.int .i64 r.1, .int .i64 r.2.1, .agg #[.int .i64 r.2.2.1, .int .i64 r.2.2.2]]
end Go.Proofs.Ytllnjmpakkodnaa
