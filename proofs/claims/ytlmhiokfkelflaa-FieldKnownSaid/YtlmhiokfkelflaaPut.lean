/-
  Put: a number's bytes, told by package field and by the document's answer alike, in new memory.
-/
import Derived.Test.YtlmhiokfkelflaaRefs
import Derived.Test.YtlmhiokfkelflaaMem
import Derived.RegionTactic
namespace Go.Proofs.Ytlmhiokfkelflaa
open Go.RowKit

def putE (n size : Int) : Int := if sizeOk size then (if wideB n (8 * size) then 0 else 5) else 2

theorem infoByte : (Try.prog.info? 5).map (fun i => (i.zero, i.size, i.bytes)) = some (some (.int .u8 0), 1, 1) := by kernel_rfl
/-- A new block of bytes, all 0. -/
theorem make_bytes (n : Nat) (hn : n ≤ 140737488355328) (W : World) :
    (Instr.makeSlice 22 (.int .i64 (n : Int)) (.int .i64 (n : Int))).run Try.prog W =
      .ok (.slice (some ⟨W.heap.size, 0, none⟩) n n) (W.alloc (.cells (Array.replicate n (.int .u8 0)) 5)) := by
  obtain ⟨i, hi, hz, h1, h2⟩ := info_parts infoByte
  have hr := run_make (P := Try.prog) W 22 5 i (.int .u8 0) Try.underlying22 hi hz .i64 .i64 n n (by omega) (by omega) (by rw [h2]; omega) (by omega)
  rw [hr]
  congr 1
  congr 2
  simp only [Int.toNat_natCast, h1, Nat.mul_one]
  apply Array.ext
  · simp [madeCells]
  · intro j a b
    simp [madeCells, Value.cells, Nat.mod_one]
theorem Blk.zeros (W : World) (n : Nat) (t : TypeId) : Blk (W.alloc (.cells (Array.replicate n (.int .u8 0)) t)) W.heap.size t (List.replicate n 0) := by
  have := heap_alloc_new W (.cells (Array.replicate n (.int .u8 0)) t)
  unfold Blk
  rw [this]
  simp
def putTo (n : Int) (s k : Nat) : List Int := bytesOf n k ++ List.replicate (s - k) 0
theorem putTo_length (n : Int) (s k : Nat) (h : k ≤ s) : (putTo n s k).length = s := by simp [putTo, bytesOf_length]; omega
theorem putTo_set (n : Int) (s k : Nat) (h : k < s) : (putTo n s k).set k (n / 2 ^ (8 * k) % 256) = putTo n s (k + 1) := by
  unfold putTo
  rw [List.set_append_right _ _ (by rw [bytesOf_length]; omega), bytesOf_length, Nat.sub_self, bytesOf_succ, List.append_assoc]
  congr 1
  obtain ⟨d, hd⟩ : ∃ d, s - k = d + 1 := ⟨s - k - 1, by omega⟩
  rw [hd, show s - (k + 1) = d by omega]
  rfl
theorem putTo_zero (n : Int) (s : Nat) : putTo n s 0 = List.replicate s 0 := by simp [putTo, bytesOf]
theorem putTo_all (n : Int) (s : Nat) : putTo n s s = bytesOf n s := by simp [putTo]

theorem put_ok (n : Int) (s : Nat) (w : World) (hn : I64 n) (hs : sizeOk s = true) (hw : wideB n (8 * s) = true) :
    Calls Try.prog 9 #[.int .i64 n, .int .i64 s] w fun e w' =>
      e = .returned (.tuple #[.slice (some ⟨w.heap.size, 0, none⟩) s s, .int .i64 0]) ∧ Below w.heap.size w w' ∧ Blk w' w.heap.size 5 (bytesOf n s) := by
  have hs8 := (sizeOk_iff _).1 hs
  have h8 : (s : Int) ≤ 8 := by omega
  have HN := hid hn; clear hn
  have hmk := make_bytes s (by omega)
  clear hs8
  go_enter Try.func9, Try.ntmps9
  go_wp2_with (first | (go_at_call 35; refine (sized_any _ _).mono ?_; rintro e w' ⟨rfl, rfl⟩) | (go_at_call 18; refine (wide_any _ _ _ HN.out).mono ?_; rintro e w' ⟨rfl, rfl⟩))
  go_loopw [19] (fun i wr => ∃ k : Nat, k ≤ s ∧ i = .int .i64 k ∧ Below w.heap.size w wr ∧ Blk wr w.heap.size 5 (putTo n s k)) (fun i _ => s - (intOf i).toNat)
  case atStart => exact ⟨0, by omega, rfl, (Below.refl _ _).alloc (Nat.le_refl _) _, by rw [putTo_zero]; exact Blk.zeros _ _ _⟩
  case round =>
    obtain ⟨k, hk, rfl, hbel, hblk⟩ := hrel
    by_cases hks : k < s
    · have hcell := hblk.cell k (by rw [putTo_length _ _ _ hk]; exact hks)
      have hfr := hblk.frozen k
      have HB := hid hbel
      have HL := hid (show Blk (wr.setCell ⟨w.heap.size, k, none⟩ (.int .u8 (n / 2 ^ (8 * k) % 256))) _ _ (putTo n s (k + 1)) by rw [← putTo_set n s k hks]; exact hblk.set_ k _)
      clear hbel hblk
      go_wp2
      go_roundw
      case rel => exact ⟨k + 1, by omega, by go_num, HB.out.setCell (Nat.le_refl _) _, HL.out⟩
      case measure => simp [intOf]; omega
    · have HB := hid hbel
      have hks' : k = s := by omega
      rw [hks', putTo_all] at hblk
      have HL := hid hblk
      clear hks'
      clear hbel hblk
      go_wp2
      go_ret2
      exact ⟨rfl, HB.out, HL.out⟩
/-- What Put answers, whatever it is given. -/
def Put (n size : Int) (w : World) (e : Ending) (w' : World) : Prop :=
  ∃ (A : Option Addr) (s : Nat), e = .returned (.tuple #[.slice A s s, .int .i64 (putE n size)]) ∧ Below w.heap.size w w' ∧
    ((putE n size = 0 ∧ (s : Int) = size ∧ A = some ⟨w.heap.size, 0, none⟩ ∧ Blk w' w.heap.size 5 (bytesOf n s)) ∨ (putE n size ≠ 0 ∧ s = 0 ∧ A = none))
theorem put_any (n size : Int) (w : World) (hn : I64 n) :
    Calls Try.prog 9 #[.int .i64 n, .int .i64 size] w (Put n size w) := by
  by_cases hs : sizeOk size = true
  · have hs8 := (sizeOk_iff _).1 hs
    by_cases hw : wideB n (8 * size) = true
    · obtain ⟨s, rfl⟩ := Int.eq_ofNat_of_zero_le (by omega : 0 ≤ size)
      have e0 : putE n s = 0 := by unfold putE; rw [if_pos hs, if_pos hw]
      refine (put_ok n s w hn hs hw).mono fun e w' ⟨he, hb, hk⟩ => ⟨_, s, by rw [he, e0], hb, .inl ⟨e0, rfl, rfl, hk⟩⟩
    · have hw' : wideB n (8 * size) = false := by simpa using hw
      have e0 : putE n size = 5 := by unfold putE; rw [if_pos hs, if_neg hw]
      have E0 := hid e0; clear e0
      have HN := hid hn; clear hn hw
      have b8 : size ≤ 8 := by omega
      have b0 : 0 ≤ size := by omega
      clear hs8
      go_enter Try.func9, Try.ntmps9
      go_wp2_with (first | (go_at_call 35; refine (sized_any _ _).mono ?_; rintro e w' ⟨rfl, rfl⟩) | (go_at_call 18; refine (wide_any _ _ _ HN.out).mono ?_; rintro e w' ⟨rfl, rfl⟩))
      go_ret2
      exact ⟨none, 0, by rw [E0.out]; rfl, Below.refl _ _, .inr ⟨by rw [E0.out]; decide, rfl, rfl⟩⟩
  · have hs' : sizeOk size = false := by simpa using hs
    have e0 : putE n size = 2 := by unfold putE; rw [if_neg hs]
    have E0 := hid e0; clear e0 hn hs
    go_enter Try.func9, Try.ntmps9
    go_wp2_with (go_at_call 35; refine (sized_any _ _).mono ?_; rintro e w' ⟨rfl, rfl⟩)
    go_ret2
    exact ⟨none, 0, by rw [E0.out]; rfl, Below.refl _ _, .inr ⟨by rw [E0.out]; decide, rfl, rfl⟩⟩

/-! ### the document's answer, by append -/
theorem own_mem {w : World} {base B n : Nat} {t : TypeId} {A : Option Addr} {m c : Nat} {zs : List Int} (h : w.ownsRow base t 1 (.slice A m c) n (zs.map (Value.int .u8))) (hz : isBytes zs) (hB : w.heap.size ≤ B) : Mem w B A zs ∧ zs.length = n := by
  have hl : zs.length = n := by have := h.1; simpa using this
  refine ⟨⟨hz, ?_⟩, hl⟩
  rcases h.2 with ⟨_, hn⟩ | ⟨g, cap, cur, hv, _, hg, _⟩
  · left; exact List.eq_nil_of_length_eq_zero (by omega)
  · injection hv with hv
    subst hv
    refine .inr ⟨g, 0, rfl, by have := (Array.getElem?_eq_some_iff.1 hg).1; omega, fun i hi => ?_⟩
    have := h.cells (g := g) rfl i (.int .u8 (zs[i]?.getD 0)) (by simp [hi])
    have hadd : (⟨g, 0, none⟩ : Addr).add i = ⟨g, i, none⟩ := by unfold Addr.add; split <;> simp_all
    rw [hadd] at this
    rw [Nat.zero_add]
    exact this
theorem own_form {w : World} {base n : Nat} {t : TypeId} {v : Value} {xs : List Value} (h : w.ownsRow base t 1 v n xs) : ∃ A c, v = .slice A n c := by
  rcases h.2 with ⟨rfl, rfl⟩ | ⟨g, cap, cur, hv, _, hg, _⟩
  · exact ⟨none, 0, rfl⟩
  · exact ⟨_, cap, hv⟩
theorem one_new (w : World) (v : Value) (t : TypeId) : ∀ j u, [v][j]? = some u → (w.alloc (.cells #[v] t)).cell? ((⟨w.heap.size, 0, none⟩ : Addr).add j) = some u := cell_one_new _ _ _

theorem rput_ok (n : Int) (s : Nat) (w : World) (hn : I64 n) (hs : sizeOk s = true) (hw : wideB n (8 * s) = true) :
    Calls Try.prog 10 #[.int .i64 n, .int .i64 s] w fun e w' =>
      ∃ v, e = .returned (.tuple #[v, .int .i64 0]) ∧ Below w.heap.size w w' ∧ w'.ownsRow w.heap.size 5 1 v s ((bytesOf n s).map (Value.int .u8)) := by
  have hs8 := (sizeOk_iff _).1 hs
  have h8 : (s : Int) ≤ 8 := by omega
  have HN := hid hn; clear hn
  clear hs8
  obtain ⟨i0, hi, hz0, hz1, hz2⟩ := info_parts infoByte
  have I0 := hid hz0; have I1 := hid hz1; have I2 := hid hz2; have I3 := hid hi
  clear hi hz0 hz1 hz2
  go_enter Try.func10, Try.ntmps10
  go_wp2_with (first | (go_at_call 36; refine (rsize_any _ _).mono ?_; rintro e w' ⟨rfl, rfl⟩) | (go_at_call 19; refine (rwide_any _ _ _ HN.out).mono ?_; rintro e w' ⟨rfl, rfl⟩))
  go_loopw [6, 7] (fun v i wr => ∃ k : Nat, k ≤ s ∧ i = .int .i64 k ∧ Below w.heap.size w wr ∧ wr.ownsRow w.heap.size 5 1 v k ((bytesOf n k).map (Value.int .u8))) (fun _ i _ => s - (intOf i).toNat)
  case atStart => exact ⟨0, by omega, rfl, Below.refl _ _, by simpa [bytesOf] using World.ownsRow_nil _ _ _ _⟩
  case round =>
    obtain ⟨k, hk, rfl, hbel, hown⟩ := hrel
    by_cases hks : k < s
    · have e8 := hid (show (8 * (k : Int)).toNat = 8 * k by omega)
      have HB := hid hbel
      have HO := hid hown
      clear hbel hown
      go_wp2_with (at_builtin; refine wpList_append_own _ rfl _ _ 22 rfl w.heap.size 5 i0 (.int .u8 0) 1 1 Try.underlying22 I3.out I0.out I1.out I2.out rfl (by decide) _ _ _ rfl (HO.out.alloc _) ⟨wr.heap.size, 0, none⟩ 1 1 [.int .u8 (n / 2 ^ (8 * k) % 256)] rfl rfl ?c1 ?c2 ?c3 ?c4 ?c5 ?_)
      case c1 => exact one_new _ _ _
      case c2 => simp [Value.oneCell']
      case c3 => simp [maxLen]; omega
      case c4 => omega
      case c5 => have := HB.out.size; simp; omega
      intro v' w1 hown' hgrow _
      have HB1 := hid (((HB.out.alloc HB.out.size _).grown hgrow (by have := HB.out.size; simp; omega) (fun k hk => (HO.out.lt k hk).1)))
      have HO1 := hid (show w1.ownsRow w.heap.size 5 1 v' (k + 1) ((bytesOf n (k + 1)).map (Value.int .u8)) by rw [bytesOf_succ, List.map_append]; exact hown')
      clear hown' hgrow
      go_wp2
      go_roundw
      case rel => exact ⟨k + 1, by omega, by go_num, HB1.out, HO1.out⟩
      case measure => simp [intOf]; omega
    · have hks' : k = s := by omega
      rw [hks'] at hown
      have HB := hid hbel
      have HO := hid hown
      clear hbel hown hks'
      go_wp2
      go_ret2
      exact ⟨_, rfl, HB.out, HO.out⟩
/-- What the document's Put answers. -/
def RPut (n size : Int) (w : World) (e : Ending) (w' : World) : Prop :=
  ∃ (A : Option Addr) (s c : Nat), e = .returned (.tuple #[.slice A s c, .int .i64 (putE n size)]) ∧ Below w.heap.size w w' ∧
    ((putE n size = 0 ∧ (s : Int) = size ∧ Mem w' w'.heap.size A (bytesOf n s)) ∨ (putE n size ≠ 0 ∧ s = 0))
theorem rput_any (n size : Int) (w : World) (hn : I64 n) :
    Calls Try.prog 10 #[.int .i64 n, .int .i64 size] w (RPut n size w) := by
  by_cases hs : sizeOk size = true
  · have hs8 := (sizeOk_iff _).1 hs
    by_cases hw : wideB n (8 * size) = true
    · obtain ⟨s, rfl⟩ := Int.eq_ofNat_of_zero_le (by omega : 0 ≤ size)
      have e0 : putE n s = 0 := by unfold putE; rw [if_pos hs, if_pos hw]
      refine (rput_ok n s w hn hs hw).mono fun e w' ⟨v, he, hb, ho⟩ => ?_
      obtain ⟨A, c, rfl⟩ := own_form ho
      exact ⟨A, s, c, by rw [he, e0], hb, .inl ⟨e0, rfl, (own_mem ho (bytesOf_range n s) (Nat.le_refl _)).1⟩⟩
    · have hw' : wideB n (8 * size) = false := by simpa using hw
      have e0 : putE n size = 5 := by unfold putE; rw [if_pos hs, if_neg hw]
      have E0 := hid e0; clear e0
      have HN := hid hn; clear hn hw
      have b8 : size ≤ 8 := by omega
      have b0 : 0 ≤ size := by omega
      clear hs8
      go_enter Try.func10, Try.ntmps10
      go_wp2_with (first | (go_at_call 36; refine (rsize_any _ _).mono ?_; rintro e w' ⟨rfl, rfl⟩) | (go_at_call 19; refine (rwide_any _ _ _ HN.out).mono ?_; rintro e w' ⟨rfl, rfl⟩))
      go_ret2
      exact ⟨none, 0, 0, by rw [E0.out]; rfl, Below.refl _ _, .inr ⟨by rw [E0.out]; decide, rfl⟩⟩
  · have hs' : sizeOk size = false := by simpa using hs
    have e0 : putE n size = 2 := by unfold putE; rw [if_neg hs]
    have E0 := hid e0; clear e0 hn hs
    go_enter Try.func10, Try.ntmps10
    go_wp2_with (go_at_call 36; refine (rsize_any _ _).mono ?_; rintro e w' ⟨rfl, rfl⟩)
    go_ret2
    exact ⟨none, 0, 0, by rw [E0.out]; rfl, Below.refl _ _, .inr ⟨by rw [E0.out]; decide, rfl⟩⟩
end Go.Proofs.Ytlmhiokfkelflaa
