/-
  Each way is read as it was, plainly.
-/
import Derived.Test.YtiiepdgpnnjpiaaDoorRdPlaces
namespace Go.Proofs.YtiiepdgpnnjpiaaDoor
open Go.RowKit
set_option maxRecDepth 100000

theorem fits_sgn {d : Int} {b : Int} (h : fitsB d b = true) : sgn d b = d := by
  unfold fitsB at h
  simp at h
  exact h.2
theorem d32_fits {d : Int} (h : D32 d) : sgn d 32 = d := by
  have e : sgn d 32 = (d + 2147483648) % 4294967296 - 2147483648 := by unfold sgn; rw [if_pos ⟨by omega, by omega⟩]; rfl
  unfold D32 at h
  rw [e]
  omega
/-- A displacement's bytes, wherever they stand. -/
theorem disp_read (pre ys : List Int) (d : Int) (n : Nat) (hn : n = 1 ∧ fitsB d 8 = true ∨ n = 4 ∧ D32 d) : dispN (pre ++ (bytesOf d n ++ ys)) pre.length n = d := by
  have h1 : 1 ≤ n ∧ n ≤ 8 := by omega
  have hso : sizeOk (n : Int) = true := by rcases hn with ⟨rfl, _⟩ | ⟨rfl, _⟩ <;> rfl
  have hl : pre.length + n ≤ (pre ++ (bytesOf d n ++ ys)).length := by simp [bytesOf_length]
  unfold dispN
  rw [if_neg (by omega), getN_ok _ _ _ true hso hl]
  simp only [if_true]
  have e : numAt (pre ++ (bytesOf d n ++ ys)) pre.length n = numAt (pre ++ bytesOf d n) pre.length n := by
    unfold numAt
    rw [List.drop_left, List.drop_left, List.take_append_of_le_length (by rw [bytesOf_length]; omega)]
  rw [e, put_sgn d pre n h1.1 h1.2]
  rcases hn with ⟨rfl, h⟩ | ⟨rfl, h⟩
  · exact fits_sgn h
  · exact d32_fits h
/-- A mod's displacement: its bytes. -/
def TailOk (n : Nat) (d : Int) (t : List Int) : Prop := n = 0 ∧ d = 0 ∧ t = [] ∨ n = 1 ∧ fitsB d 8 = true ∧ t = bytesOf d 1 ∨ n = 4 ∧ D32 d ∧ t = bytesOf d 4
theorem TailOk.len {n : Nat} {d : Int} {t : List Int} (h : TailOk n d t) : t.length = n := by
  rcases h with ⟨rfl, _, rfl⟩ | ⟨rfl, _, rfl⟩ | ⟨rfl, _, rfl⟩ <;> simp [bytesOf_length]
theorem place_read {mod rm x b : Int} {sib t ys : List Int} {p : Pl} {d : Int} (hR : ∀ zs, regsF mod rm x b (sib ++ zs) = (0, p, sib.length)) (ht : TailOk (widthF (if p.bc = 5 then mod else 2)) d t) :
    placeF mod rm x b (sib ++ (t ++ ys)) = (0, canonF { p with d := d }, sib.length + t.length) := by
  have hl := ht.len
  unfold placeF
  rw [hR]
  simp only [if_true]
  generalize widthF (if p.bc = 5 then mod else 2) = n at ht hl ⊢
  rw [if_neg (by simp; omega), hl]
  have e : dispN (sib ++ (t ++ ys)) sib.length n = d := by
    rcases ht with ⟨rfl, rfl, rfl⟩ | ⟨rfl, h, rfl⟩ | ⟨rfl, h, rfl⟩
    · simp [dispN]
    · exact disp_read sib ys d 1 (.inl ⟨rfl, h⟩)
    · exact disp_read sib ys d 4 (.inr ⟨rfl, h⟩)
  rw [e]
/-- A cut place: cut. -/
theorem place_cut {mod rm x b : Int} {sib t : List Int} {p : Pl} {d : Int} (hR : ∀ zs, regsF mod rm x b (sib ++ zs) = (0, p, sib.length)) (h0 : ∀ k, k < sib.length → regsF mod rm x b (sib.take k) = (9, zeroM, 0)) (ht : TailOk (widthF (if p.bc = 5 then mod else 2)) d t) (k : Nat) (hk : k < sib.length + t.length) :
    placeF mod rm x b ((sib ++ t).take k) = (9, zeroM, 0) := by
  have hl := ht.len
  rcases Nat.lt_or_ge k sib.length with h | h
  · rw [List.take_append_of_le_length (by omega)]
    unfold placeF
    rw [h0 k h]
    simp
  · obtain ⟨j, rfl⟩ : ∃ j, k = sib.length + j := ⟨k - sib.length, by omega⟩
    rw [List.take_length_add_append]
    unfold placeF
    rw [hR]
    simp only [if_true]
    generalize widthF (if p.bc = 5 then mod else 2) = n at ht hl ⊢
    rw [if_pos (by simp; omega)]
/-- One way of a place, read. -/
theorem way_read {f mod rm x b : Int} {sib t : List Int} {p : Pl} {d : Int} (hf : 0 ≤ f ∧ f ≤ 7) (hm : 0 ≤ mod ∧ mod ≤ 2) (hrm : 0 ≤ rm ∧ rm ≤ 7) (hR : ∀ zs, regsF mod rm x b (sib ++ zs) = (0, p, sib.length)) (ht : TailOk (widthF (if p.bc = 5 then mod else 2)) d t) (ys : List Int) :
    readF x b ((64 * mod + 8 * f + rm) :: (sib ++ t) ++ ys) = (0, ⟨f, -1, canonF { p with d := d }, 1 + (sib.length + t.length)⟩) := by
  have e1 : (64 * mod + 8 * f + rm) / 64 = mod := by omega
  have e2 : (64 * mod + 8 * f + rm) / 8 % 8 = f := by omega
  have e3 : (64 * mod + 8 * f + rm) % 8 = rm := by omega
  simp only [List.cons_append, readF, e1, e2, e3, List.append_assoc]
  rw [if_neg (by omega), place_read hR ht]
  simp
theorem way_cut {f mod rm x b : Int} {sib t : List Int} {p : Pl} {d : Int} (hf : 0 ≤ f ∧ f ≤ 7) (hm : 0 ≤ mod ∧ mod ≤ 2) (hrm : 0 ≤ rm ∧ rm ≤ 7) (hR : ∀ zs, regsF mod rm x b (sib ++ zs) = (0, p, sib.length)) (h0 : ∀ k, k < sib.length → regsF mod rm x b (sib.take k) = (9, zeroM, 0)) (ht : TailOk (widthF (if p.bc = 5 then mod else 2)) d t) (k : Nat) (hk : k < 1 + (sib.length + t.length)) :
    readF x b (((64 * mod + 8 * f + rm) :: (sib ++ t)).take k) = (9, zeroS) := by
  cases k with
  | zero => rfl
  | succ k =>
    have e1 : (64 * mod + 8 * f + rm) / 64 = mod := by omega
    have e3 : (64 * mod + 8 * f + rm) % 8 = rm := by omega
    simp only [List.take_succ_cons, readF, e1, e3]
    rw [if_neg (by omega), place_cut hR h0 ht k (by omega)]
    simp
/-! ### the heads' registers -/
theorem regs_back_rip (zs : List Int) : regsF 0 5 0 0 ([] ++ zs) = (0, ⟨8, 0, 0, 0, 0, 0, 0⟩, 0) := by simp [regsF]
theorem regs_plain {mod l b : Int} (h4 : ¬ l = 4) (h5 : ¬ (mod = 0 ∧ l = 5)) (zs : List Int) : regsF mod l 0 b ([] ++ zs) = (0, ⟨5, 8 * b + l, 0, 0, 0, 0, 0⟩, 0) := by
  simp only [regsF, List.nil_append, if_neg h4]
  rw [if_neg (by simp; intro h h'; exact absurd ⟨h, h'⟩ h5), if_neg h5]
/-- SIB of so many bits, and three, and three. -/
theorem regs_sib {mod x b q i l : Int} (_hq : 0 ≤ q ∧ q ≤ 3) (hi : 0 ≤ i ∧ i ≤ 7) (hl : 0 ≤ l ∧ l ≤ 7) (h1 : ¬ (i + 8 * x = 4 ∧ ¬ q = 0)) (h2 : ¬ (mod = 0 ∧ l = 5 ∧ b = 1)) (zs : List Int) :
    regsF mod 4 x b ([64 * q + 8 * i + l] ++ zs) = (0, ⟨if mod = 0 ∧ l = 5 then 0 else 5, if mod = 0 ∧ l = 5 then 0 else 8 * b + l, if i + 8 * x = 4 then 0 else 5, if i + 8 * x = 4 then 0 else 8 * x + i, if i + 8 * x = 4 then 0 else 2 ^ q.toNat, 0, 0⟩, 1) := by
  have e1 : (64 * q + 8 * i + l) / 64 = q := by omega
  have e2 : (64 * q + 8 * i + l) / 8 % 8 = i := by omega
  have e3 : (64 * q + 8 * i + l) % 8 = l := by omega
  simp only [regsF, List.cons_append, List.nil_append, e1, e2, e3, if_true]
  rw [if_neg (by rintro (h | h); · exact h1 h
                 · exact h2 h)]
theorem regs_sib_cut (mod x b s : Int) (k : Nat) (hk : k < [s].length) : regsF mod 4 x b ([s].take k) = (9, zeroM, 0) := by
  simp at hk
  subst hk
  rfl
end Go.Proofs.YtiiepdgpnnjpiaaDoor
