/-
  What package field's functions on bits do.
  Plain facts: numbers of so many bits.
  Words for bytes in memory: a slice that reads as a list of numbers, in old memory or in a block that the call made.
  Words for bytes that the call makes: a block of zeros, a string out of bytes, bytes by append, and the small function that compares bytes.
-/
import Derived.Test.YtiiepdgpnnjpiaaDoorBase
import Derived.WalkSpells
import Derived.WalkLawsBesides
import Derived.WalkKit
import Derived.RegionTactic
import Derived.Laws.BytesArg
import Derived.Laws.CopyOwn
section
namespace Go.Proofs.YtiiepdgpnnjpiaaDoor
open Go.RowKit

theorem counted_any (b : Int) (w : World) :
    Calls Tryd.prog 101 #[.int .i64 b] w fun e w' => e = .returned (.bool (bitsOk b)) ∧ w = w' := by
  go_enter Tryd.func101, Tryd.ntmps101
  go_wp2
  all_goals (go_ret; exact ⟨ret_b (by unfold bitsOk; rw [Bool.eq_iff_iff]; simp; try omega), rfl⟩)
def sizeOk (b : Int) : Bool := b == 1 || b == 2 || b == 4 || b == 8
theorem sizeOk_iff (b : Int) : sizeOk b = true ↔ b = 1 ∨ b = 2 ∨ b = 4 ∨ b = 8 := by simp [sizeOk, or_assoc]
theorem sizeOk_not (b : Int) : sizeOk b = false ↔ ¬(b = 1 ∨ b = 2 ∨ b = 4 ∨ b = 8) := by rw [← sizeOk_iff]; simp
theorem fsized_any (b : Int) (w : World) :
    Calls Tryd.prog 86 #[.int .i64 b] w fun e w' => e = .returned (.bool (sizeOk b)) ∧ w = w' := by
  go_enter Tryd.func86, Tryd.ntmps86
  go_wp2
  all_goals (go_ret; exact ⟨ret_b (by simp_all [sizeOk]), rfl⟩)
theorem sign_any (n b : Int) (w : World) :
    Calls Tryd.prog 102 #[.int .i64 n, .int .i64 b] w fun e w' => e = .returned (.int .i64 (sgn n b)) ∧ w = w' := by
  by_cases h : 1 ≤ b ∧ b ≤ 64
  · have h1 := h.1
    have h2 := h.2
    have H := hid (shift_sgn n b h1 h2)
    have hb : bitsOk b = true := (bitsOk_iff b).2 h
    go_enter Tryd.func102, Tryd.ntmps102
    go_wp2_with (go_at_call 101; refine (counted_any _ _).mono ?_; rintro e w' ⟨rfl, rfl⟩)
    go_ret
    exact ⟨ret_i H.out, rfl⟩
  · have hb : bitsOk b = false := (bitsOk_not b).2 h
    have hs : sgn n b = 0 := by unfold sgn; rw [if_neg h]
    clear h
    go_enter Tryd.func102, Tryd.ntmps102
    go_wp2_with (go_at_call 101; refine (counted_any _ _).mono ?_; rintro e w' ⟨rfl, rfl⟩)
    go_ret
    exact ⟨ret_i hs.symm, rfl⟩
theorem low_any (n b : Int) (w : World) (hn : I64 n) :
    Calls Tryd.prog 105 #[.int .i64 n, .int .i64 b] w fun e w' => e = .returned (.int .i64 (low n b)) ∧ w = w' := by
  by_cases h : 1 ≤ b ∧ b ≤ 64
  · have h1 := h.1
    have h2 := h.2
    have H := hid (shift_low n b hn h1 h2)
    have hb : bitsOk b = true := (bitsOk_iff b).2 h
    clear hn
    go_enter Tryd.func105, Tryd.ntmps105
    go_wp2_with (go_at_call 101; refine (counted_any _ _).mono ?_; rintro e w' ⟨rfl, rfl⟩)
    go_ret
    exact ⟨ret_i H.out, rfl⟩
  · have hb : bitsOk b = false := (bitsOk_not b).2 h
    have hs : low n b = 0 := by unfold low; rw [if_neg (by omega), if_neg (by omega)]
    clear h hn
    go_enter Tryd.func105, Tryd.ntmps105
    go_wp2_with (go_at_call 101; refine (counted_any _ _).mono ?_; rintro e w' ⟨rfl, rfl⟩)
    go_ret
    exact ⟨ret_i hs.symm, rfl⟩
theorem fits_any (n b : Int) (w : World) :
    Calls Tryd.prog 94 #[.int .i64 n, .int .i64 b] w fun e w' => e = .returned (.bool (fitsB n b)) ∧ w = w' := by
  have hf : ∀ x, fitsB n b = x ↔ (bitsOk b && sgn n b == n) = x := fun x => by unfold fitsB; rfl
  by_cases h : bitsOk b = true
  · have H := hid hf; clear hf
    go_enter Tryd.func94, Tryd.ntmps94
    go_wp2_with (first | (go_at_call 101; refine (counted_any _ _).mono ?_; rintro e w' ⟨rfl, rfl⟩) | (go_at_call 102; refine (sign_any _ _ _).mono ?_; rintro e w' ⟨rfl, rfl⟩))
    go_ret
    exact ⟨ret_b (by unfold fitsB; rw [h]; rfl), rfl⟩
  · have h' : bitsOk b = false := by simpa using h
    clear h hf
    go_enter Tryd.func94, Tryd.ntmps94
    go_wp2_with (go_at_call 101; refine (counted_any _ _).mono ?_; rintro e w' ⟨rfl, rfl⟩)
    go_ret
    exact ⟨ret_b (by unfold fitsB; rw [h']; rfl), rfl⟩
theorem fwide_any (n b : Int) (w : World) (hn : I64 n) :
    Calls Tryd.prog 103 #[.int .i64 n, .int .i64 b] w fun e w' => e = .returned (.bool (wideB n b)) ∧ w = w' := by
  have HN := hid hn; clear hn
  by_cases h : fitsB n b = true
  · go_enter Tryd.func103, Tryd.ntmps103
    go_wp2_with (go_at_call 94; refine (fits_any _ _ _).mono ?_; rintro e w' ⟨rfl, rfl⟩)
    go_ret
    exact ⟨ret_b (by unfold wideB; rw [h]; rfl), rfl⟩
  · have h' : fitsB n b = false := by simpa using h
    clear h
    by_cases hb : bitsOk b = true
    · go_enter Tryd.func103, Tryd.ntmps103
      go_wp2_with (first | (go_at_call 94; refine (fits_any _ _ _).mono ?_; rintro e w' ⟨rfl, rfl⟩) | (go_at_call 101; refine (counted_any _ _).mono ?_; rintro e w' ⟨rfl, rfl⟩) | (go_at_call 105; refine (low_any _ _ _ HN.out).mono ?_; rintro e w' ⟨rfl, rfl⟩))
      go_ret
      exact ⟨ret_b (by unfold wideB; rw [h', hb]; rfl), rfl⟩
    · have hb' : bitsOk b = false := by simpa using hb
      clear hb
      go_enter Tryd.func103, Tryd.ntmps103
      go_wp2_with (first | (go_at_call 94; refine (fits_any _ _ _).mono ?_; rintro e w' ⟨rfl, rfl⟩) | (go_at_call 101; refine (counted_any _ _).mono ?_; rintro e w' ⟨rfl, rfl⟩))
      go_ret
      exact ⟨ret_b (by unfold wideB; rw [h', hb']; rfl), rfl⟩
end Go.Proofs.YtiiepdgpnnjpiaaDoor
end
section
namespace Go.Proofs.YtiiepdgpnnjpiaaDoor
open Go.RowKit

theorem sgn_fits (n b : Int) (h : 1 ≤ b ∧ b ≤ 64) : fitsB (sgn n b) b = true := by
  have hp := (pow_half b.toNat (by omega)).2
  rw [fits_in h, sgn_ok h]
  exact sgn_bound hp
theorem sgn_sgn (n b : Int) (h : 1 ≤ b ∧ b ≤ 64) : sgn (sgn n b) b = sgn n b := (sgn_in h).2 ((fits_in h).1 (sgn_fits n b h))
theorem sgn_I64 (n b : Int) : I64 (sgn n b) := by
  by_cases h : 1 ≤ b ∧ b ≤ 64
  · have hp := (fits_in h).1 (sgn_fits n b h)
    have h5 := pow_le (b.toNat - 1) 63 (by omega)
    have h6 : (2 : Int) ^ 63 = 9223372036854775808 := rfl
    unfold I64; omega
  · unfold sgn; rw [if_neg h]; unfold I64; omega
theorem low_pos {n b : Int} (h : 1 ≤ b ∧ b < 64) : 0 ≤ low n b ∧ low n b < 2 ^ b.toNat := by
  have hp : (0 : Int) < 2 ^ b.toNat := Int.pow_pos (by decide)
  unfold low
  rw [if_pos h]
  exact ⟨Int.emod_nonneg _ (by omega), Int.emod_lt_of_pos _ hp⟩
theorem low_I64 {n : Int} (hn : I64 n) (b : Int) : I64 (low n b) := by
  by_cases h : 1 ≤ b ∧ b < 64
  · have hp := low_pos (n := n) h
    have h5 := pow_le b.toNat 63 (by omega)
    have h6 : (2 : Int) ^ 63 = 9223372036854775808 := rfl
    unfold I64; omega
  · unfold low; rw [if_neg h]
    split
    · exact hn
    · unfold I64; omega
theorem low_low (n b : Int) (h : 1 ≤ b ∧ b ≤ 64) : low (low n b) b = low n b := by
  rw [low_in h]
  by_cases hb : b < 64
  · exact .inr (low_pos ⟨h.1, hb⟩)
  · left; omega
theorem low_sgn {n b : Int} (h : 1 ≤ b ∧ b < 64) (hne : sgn n b ≠ low n b) : low n b - sgn n b = 2 ^ b.toNat := by
  have := sgn_low (n := n) h
  split at this <;> omega
theorem wide_or (n b : Int) (h : 1 ≤ b ∧ b ≤ 64) : wideB n b = (sgn n b == n || low n b == n) := by
  unfold wideB fitsB
  rw [(bitsOk_iff b).2 h]; rfl
theorem fits_eq (n b : Int) (h : 1 ≤ b ∧ b ≤ 64) : fitsB n b = (sgn n b == n) := by
  unfold fitsB; rw [(bitsOk_iff b).2 h]; rfl
theorem fits_more {n b v : Int} (h : 1 ≤ b ∧ b ≤ 64) (hv : b ≤ v ∧ v ≤ 64) (hf : fitsB n b = true) : fitsB n v = true := by
  rw [fits_in h] at hf
  rw [fits_in (by omega)]
  have := pow_le (b.toNat - 1) (v.toNat - 1) (by omega)
  omega
theorem wide_more {n b v : Int} (hn : I64 n) (h : 1 ≤ b ∧ b ≤ 64) (hv : b ≤ v ∧ v ≤ 64) (hf : wideB n b = true) : wideB n v = true := by
  rw [wide_in hn h] at hf
  rw [wide_in hn (by omega)]
  have := pow_le (b.toNat - 1) (v.toNat - 1) (by omega)
  have := pow_le b.toNat v.toNat (by omega)
  omega
theorem fits_wide {n b : Int} (hf : fitsB n b = true) : wideB n b = true := by unfold wideB; rw [hf]; rfl
end Go.Proofs.YtiiepdgpnnjpiaaDoor
end
section
namespace Go.Proofs.YtiiepdgpnnjpiaaDoor
open Go.RowKit

def isBytes (zs : List Int) : Prop := ∀ z ∈ zs, 0 ≤ z ∧ z < 256
/-- From A on the bytes zs stand, in a block below B. -/
def Mem (w : World) (B : Nat) (A : Option Addr) (zs : List Int) : Prop :=
  isBytes zs ∧ (zs = [] ∨ ∃ b off, A = some ⟨b, off, none⟩ ∧ b < B ∧ ∀ i, i < zs.length → w.cell? ⟨b, off + i, none⟩ = some (.int .u8 (zs[i]?.getD 0)))
theorem isBytes.getD {zs : List Int} (h : isBytes zs) (i : Nat) : 0 ≤ zs[i]?.getD 0 ∧ zs[i]?.getD 0 < 256 := by
  rcases Nat.lt_or_ge i zs.length with hi | hi
  · rw [List.getElem?_eq_getElem hi]; exact h _ (List.getElem_mem hi)
  · rw [List.getElem?_eq_none hi]; simp
theorem isBytes.take {zs : List Int} (h : isBytes zs) (n : Nat) : isBytes (zs.take n) := fun z hz => h z (List.mem_of_mem_take hz)
theorem isBytes.drop {zs : List Int} (h : isBytes zs) (n : Nat) : isBytes (zs.drop n) := fun z hz => h z (List.mem_of_mem_drop hz)
theorem isBytes.append {xs ys : List Int} (h : isBytes xs) (k : isBytes ys) : isBytes (xs ++ ys) := fun z hz => by
  rcases List.mem_append.1 hz with h1 | h1
  · exact h z h1
  · exact k z h1
theorem Mem.take {w : World} {B : Nat} {A : Option Addr} {zs : List Int} (h : Mem w B A zs) (n : Nat) : Mem w B A (zs.take n) := by
  refine ⟨h.1.take n, ?_⟩
  rcases h.2 with rfl | ⟨b, off, rfl, hb, hc⟩
  · left; simp
  · refine .inr ⟨b, off, rfl, hb, fun i hi => ?_⟩
    rw [List.length_take] at hi
    rw [hc i (by omega), List.getElem?_take, if_pos (by omega)]
theorem Mem.mono {w : World} {B B' : Nat} {A : Option Addr} {zs : List Int} (h : Mem w B A zs) (hB : B ≤ B') : Mem w B' A zs := by
  refine ⟨h.1, ?_⟩
  rcases h.2 with rfl | ⟨b, off, rfl, hb, hc⟩
  · left; rfl
  · exact .inr ⟨b, off, rfl, by omega, hc⟩
theorem Mem.keep {w w' : World} {B : Nat} {A : Option Addr} {zs : List Int} (h : Mem w B A zs) (hk : ∀ p : Addr, p.block < B → w'.cell? p = w.cell? p) : Mem w' B A zs := by
  refine ⟨h.1, ?_⟩
  rcases h.2 with rfl | ⟨b, off, rfl, hb, hc⟩
  · left; rfl
  · exact .inr ⟨b, off, rfl, hb, fun i hi => by rw [hk _ hb]; exact hc i hi⟩
theorem Mem.below {w w' : World} {B : Nat} {A : Option Addr} {zs : List Int} (h : Mem w B A zs) (hb : Below B w w') : Mem w' B A zs := h.keep fun _ hp => hb.cell hp
theorem Mem.nil (w : World) (B : Nat) (A : Option Addr) : Mem w B A [] := ⟨by simp [isBytes], .inl rfl⟩
/-- Block g, from B on, is just the bytes zs, and may be written. -/
def ByB (w : World) (g : Nat) (t : TypeId) (zs : List Int) : Prop := w.heap[g]? = some (.cells (zs.map (Value.int .u8)).toArray t (0, 0))
theorem ByB.lt {w : World} {g : Nat} {t : TypeId} {zs : List Int} (h : ByB w g t zs) : g < w.heap.size := by
  rcases Nat.lt_or_ge g w.heap.size with hlt | hge
  · exact hlt
  · unfold ByB at h; rw [Array.getElem?_eq_none hge] at h; cases h
theorem ByB.cell {w : World} {g : Nat} {t : TypeId} {zs : List Int} (h : ByB w g t zs) (i : Nat) (hi : i < zs.length) : w.cell? ⟨g, i, none⟩ = some (.int .u8 (zs[i]?.getD 0)) := by
  have := cell_of_row w g i _ t (0, 0) h
  rw [this]
  simp [hi]
theorem ByB.frozen {w : World} {g : Nat} {t : TypeId} {zs : List Int} (h : ByB w g t zs) (i : Nat) : w.frozen? ⟨g, i, none⟩ = false := by
  unfold ByB at h
  simp [World.frozen?, h]
theorem ByB.mem {w : World} {g B : Nat} {t : TypeId} {zs : List Int} (h : ByB w g t zs) (hz : isBytes zs) (hB : g < B) : Mem w B (some ⟨g, 0, none⟩) zs :=
  ⟨hz, .inr ⟨g, 0, rfl, hB, fun i hi => by rw [Nat.zero_add]; exact h.cell i hi⟩⟩
theorem ByB.below {w w' : World} {g B : Nat} {t : TypeId} {zs : List Int} (h : ByB w g t zs) (hb : Below B w w') (hg : g < B) : ByB w' g t zs := (hb.block g hg).trans h
theorem ByB.set_ {w : World} {g : Nat} {t : TypeId} {zs : List Int} (h : ByB w g t zs) (i : Nat) (z : Int) : ByB (w.setCell ⟨g, i, none⟩ (.int .u8 z)) g t (zs.set i z) := by
  unfold ByB at h ⊢
  simp [World.setCell, Array.getElem?_modify, h, List.map_set]
end Go.Proofs.YtiiepdgpnnjpiaaDoor
end
section
namespace Go.Proofs.YtiiepdgpnnjpiaaDoor
open Go.RowKit

theorem infoByte : (Tryd.prog.info? 5).map (fun i => (i.zero, i.size, i.bytes)) = some (some (.int .u8 0), 1, 1) := by kernel_rfl
set_option maxRecDepth 100000 in
/-- A new block of bytes, all 0. -/
theorem make_bytes (n : Nat) (hn : n ≤ 140737488355328) (W : World) :
    (Instr.makeSlice 32 (.int .i64 (n : Int)) (.int .i64 (n : Int))).run Tryd.prog W =
      .ok (.slice (some ⟨W.heap.size, 0, none⟩) n n) (W.alloc (.cells (Array.replicate n (.int .u8 0)) 5)) := by
  obtain ⟨i, hi, hz, h1, h2⟩ := info_parts infoByte
  have hr := run_make (P := Tryd.prog) W 32 5 i (.int .u8 0) Tryd.underlying32 hi hz .i64 .i64 n n (by omega) (by omega) (by rw [h2]; omega) (by omega)
  rw [hr]
  congr 1
  congr 2
  simp only [Int.toNat_natCast, h1, Nat.mul_one]
  apply Array.ext
  · simp [madeCells]
  · intro j a b
    simp [madeCells, Value.cells, Nat.mod_one]
theorem ByB.zeros (W : World) (n : Nat) (t : TypeId) : ByB (W.alloc (.cells (Array.replicate n (.int .u8 0)) t)) W.heap.size t (List.replicate n 0) := by
  have := heap_alloc_new W (.cells (Array.replicate n (.int .u8 0)) t)
  unfold ByB
  rw [this]
  simp
theorem own_mem {w : World} {base B n : Nat} {t : TypeId} {A : Option Addr} {m c : Nat} {zs : List Int} (h : w.ownsRow base t 1 (.slice A m c) n (zs.map (Value.int .u8))) (hz : isBytes zs) (hB : w.heap.size ≤ B) : Mem w B A zs ∧ zs.length = n := by
  have hl : zs.length = n := by have := h.1; simpa using this
  refine ⟨⟨hz, ?_⟩, hl⟩
  rcases h.2 with ⟨_, hn⟩ | ⟨g, cap, cur, hv, _, hg, _⟩
  · left; exact List.eq_nil_of_length_eq_zero (by omega)
  · injection hv with hv
    subst hv
    refine .inr ⟨g, 0, rfl, by have := (Array.getElem?_eq_some_iff.1 hg).1; omega, fun i hi => ?_⟩
    have := h.cells (g := g) rfl i (.int .u8 (zs[i]?.getD 0)) (by simp [hi])
    have hadd : (⟨g, 0, none⟩ : Addr).add i = ⟨g, i, none⟩ := by unfold Addr.add; split <;> simp_all
    rw [hadd] at this
    rw [Nat.zero_add]
    exact this
theorem own_form {w : World} {base n : Nat} {t : TypeId} {v : Value} {xs : List Value} (h : w.ownsRow base t 1 v n xs) : ∃ A c, v = .slice A n c := by
  rcases h.2 with ⟨rfl, rfl⟩ | ⟨g, cap, cur, hv, _, hg, _⟩
  · exact ⟨none, 0, rfl⟩
  · exact ⟨_, cap, hv⟩
theorem one_new (w : World) (v : Value) (t : TypeId) : ∀ j u, [v][j]? = some u → (w.alloc (.cells #[v] t)).cell? ((⟨w.heap.size, 0, none⟩ : Addr).add j) = some u := cell_one_new _ _ _
/-! ### strings out of bytes -/
def str (xs : List Int) : ByteArray := strOfNums xs
theorem str_inj {xs ys : List Int} (hx : isBytes xs) (hy : isBytes ys) (h : str xs = str ys) : xs = ys := by
  have e : xs.map (fun n => UInt8.ofNat n.toNat) = ys.map (fun n => UInt8.ofNat n.toNat) := by
    have := congrArg (fun b : ByteArray => b.data.toList) h
    simpa [str, strOfNums_data] using this
  have back : ∀ l : List Int, isBytes l → (l.map (fun n => UInt8.ofNat n.toNat)).map (fun u => (u.toNat : Int)) = l := by
    intro l hl
    rw [List.map_map]
    conv => rhs; rw [← List.map_id l]
    refine List.map_congr_left fun z hz => ?_
    have := hl z hz
    simp
    omega
  rw [← back xs hx, ← back ys hy, e]
theorem conv_bytes (A : Option Addr) (c : Nat) (xs : List Int) (w : World) (B : Nat) (hx : Mem w B A xs) :
    (convert 32 9 (.slice A xs.length c)).run Tryd.prog w = .ok (.string (str xs)) w := by
  obtain ⟨hb, rfl | ⟨b, off, rfl, _, hc⟩⟩ := hx
  · rcases A with _ | ⟨b, off, spot⟩
    · exact run_convert_bytes_nil w _ _ Tryd.underlying32 Tryd.underlying5 _ _ _ Tryd.underlying9
    · have hl : (loadCells ⟨b, off, spot⟩ 0).run Tryd.prog w = .ok #[] w := by
        have := run_loadCells_list (P := Tryd.prog) w ⟨b, off, spot⟩ [] (fun j v hj => by simp at hj)
        simpa using this
      rw [run_convert_bytes_string w _ _ _ _ _ c Tryd.underlying32 Tryd.underlying5 Tryd.underlying9]
      have := run_bytesToString (P := Tryd.prog) w ⟨b, off, spot⟩ 0 c [] (by simpa using hl)
      exact this
  · exact run_convert_bytes_arg w _ _ Tryd.underlying32 Tryd.underlying5 b off _ c xs rfl (fun i hi => by rw [hc i hi]; simp) _ Tryd.underlying9
theorem str_eq {xs ys : List Int} (hx : isBytes xs) (hy : isBytes ys) : ((str xs).toList == (str ys).toList) = decide (xs = ys) := by
  rw [Bool.eq_iff_iff, beq_iff_eq, decide_eq_true_iff, ByteArray.toList_eq, ByteArray.toList_eq]
  constructor
  · intro h
    refine str_inj hx hy ?_
    have := Array.toList_inj.1 h
    cases hs : str xs; cases ht : str ys
    rw [hs, ht] at this
    simp at this
    rw [this]
  · rintro rfl; rfl
theorem same_any (A A' : Option Addr) (c c' : Nat) (xs ys : List Int) (w : World) (B B' : Nat) (hx : Mem w B A xs) (hy : Mem w B' A' ys) :
    Calls Tryd.prog 10 #[.slice A xs.length c, .slice A' ys.length c'] w fun e w' => e = .returned (.bool (decide (xs = ys))) ∧ w = w' := by
  have h1 := conv_bytes A c xs w B hx
  have h2 := conv_bytes A' c' ys w B' hy
  have H := hid (str_eq hx.1 hy.1)
  clear hx hy
  go_enter Tryd.func10, Tryd.ntmps10
  go_wp2
  go_ret
  exact ⟨ret_b H.out, rfl⟩
theorem same_of (A A' : Option Addr) (n m c c' : Nat) (xs ys : List Int) (w : World) (hx : ∃ B, Mem w B A xs) (hy : ∃ B, Mem w B A' ys) (hn : xs.length = n) (hm : ys.length = m) :
    Calls Tryd.prog 10 #[.slice A n c, .slice A' m c'] w fun e w' => e = .returned (.bool (decide (xs = ys))) ∧ w = w' := by
  subst hn hm; obtain ⟨B, hx⟩ := hx; obtain ⟨B', hy⟩ := hy; exact same_any A A' c c' xs ys w B B' hx hy
/-! ### a copy with room behind it -/
theorem make_bytes' (m : Int) (h0 : 0 ≤ m) (h1 : m ≤ 140737488355328) (W : World) :
    (Instr.makeSlice 32 (.int .i64 m) (.int .i64 m)).run Tryd.prog W =
      .ok (.slice (some ⟨W.heap.size, 0, none⟩) m.toNat m.toNat) (W.alloc (.cells (Array.replicate m.toNat (.int .u8 0)) 5)) := by
  obtain ⟨n, rfl⟩ := Int.eq_ofNat_of_zero_le h0
  rw [Int.toNat_natCast]
  exact make_bytes n (by omega) W
theorem splice_map {α β : Type} (f : α → β) (L cs : List α) (off : Nat) : splice (L.map f) off (cs.map f) = (splice L off cs).map f := by simp [splice, List.map_take, List.map_drop]
/-- copy of bytes into a block of the call's own. -/
theorem wpList_copy_bytes {w : World} {ops : Array Oper} {rest : List Oper} {o : Oper} {a : Act} {Q : Exit → Act → World → Prop} (hgd : o.guard = none) (d s : Operand)
    (ho : o.op = .call { callee := .builtin .copy, args := #[d, s], argTypes := #[32, 32] })
    (g off dLen dCap : Nat) (A : Option Addr) (sCap : Nat) (xs zs : List Int) (B' : Nat) (hd : a.eval d = .slice (some ⟨g, off, none⟩) dLen dCap) (hs : a.eval s = .slice A xs.length sCap)
    (t : TypeId) (hg : ByB w g t zs) (hx : Mem w B' A xs) (hn : off + min xs.length dLen ≤ zs.length)
    (B : Nat) (w0 : World) (hb : Below B w0 w) (hBg : B ≤ g)
    (h : ∀ w', Hid (ByB w' g t (splice zs off (xs.take dLen))) → Below B w0 w' → wpList Tryd.prog ops Q rest (a.put o.dst (goInt (xs.take dLen).length)) w') :
    wpList Tryd.prog ops Q (o :: rest) a w := by
  refine wpList_copy_splice hgd d s 32 32 ho 5 Tryd.underlying32 (by kernel_rfl) (some ⟨g, off, none⟩) A dLen dCap xs.length sCap hd hs g off (zs.map (Value.int .u8)) t hg
    ((xs.take dLen).map (Value.int .u8)) (by simp [Nat.min_comm]) ?_ (by simp; omega) (fun v hv => by obtain ⟨z, _, rfl⟩ := List.mem_map.1 hv; rfl) B w0 hb hBg ?_
  · intro hpos
    refine ⟨rfl, ?_⟩
    obtain ⟨_, rfl | ⟨b, o2, rfl, _, hc⟩⟩ := hx
    · simp at hpos
    · refine ⟨_, rfl, fun j v hj => ?_⟩
      have hadd : (⟨b, o2, none⟩ : Addr).add j = ⟨b, o2 + j, none⟩ := by unfold Addr.add; split <;> simp_all
      rw [hadd]
      simp only [List.getElem?_map, List.getElem?_take] at hj
      split at hj
      · rcases Nat.lt_or_ge j xs.length with hl | hl
        · rw [hc j hl, ← hj]; simp [hl]
        · rw [List.getElem?_eq_none hl] at hj; cases hj
      · cases hj
  · intro w' h1 h2
    rw [splice_map] at h1
    have := h w' h1 h2
    simpa using this
end Go.Proofs.YtiiepdgpnnjpiaaDoor
end
