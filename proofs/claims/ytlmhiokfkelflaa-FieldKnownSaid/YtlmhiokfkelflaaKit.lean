/-
  The small functions that statements share, over bytes.
-/
import Derived.Test.YtlmhiokfkelflaaPut
import Derived.Test.YtlmhiokfkelflaaGet
import Derived.Laws.BytesArg
import Derived.Laws.CopyOwn
namespace Go.Proofs.Ytlmhiokfkelflaa
open Go.RowKit

def str (xs : List Int) : ByteArray := strOfNums xs
theorem str_inj {xs ys : List Int} (hx : isBytes xs) (hy : isBytes ys) (h : str xs = str ys) : xs = ys := by
  have e : xs.map (fun n => UInt8.ofNat n.toNat) = ys.map (fun n => UInt8.ofNat n.toNat) := by
    have := congrArg (fun b : ByteArray => b.data.toList) h
    simpa [str, strOfNums_data] using this
  have back : ∀ l : List Int, isBytes l → (l.map (fun n => UInt8.ofNat n.toNat)).map (fun u => (u.toNat : Int)) = l := by
    intro l hl
    rw [List.map_map]
    conv => rhs; rw [← List.map_id l]
    refine List.map_congr_left fun z hz => ?_
    have := hl z hz
    simp
    omega
  rw [← back xs hx, ← back ys hy, e]
theorem conv_bytes (A : Option Addr) (c : Nat) (xs : List Int) (w : World) (B : Nat) (hx : Mem w B A xs) :
    (convert 22 9 (.slice A xs.length c)).run Try.prog w = .ok (.string (str xs)) w := by
  obtain ⟨hb, rfl | ⟨b, off, rfl, _, hc⟩⟩ := hx
  · rcases A with _ | ⟨b, off, spot⟩
    · exact run_convert_bytes_nil w _ _ Try.underlying22 Try.underlying5 _ _ _ Try.underlying9
    · have hl : (loadCells ⟨b, off, spot⟩ 0).run Try.prog w = .ok #[] w := by
        have := run_loadCells_list (P := Try.prog) w ⟨b, off, spot⟩ [] (fun j v hj => by simp at hj)
        simpa using this
      rw [run_convert_bytes_string w _ _ _ _ _ c Try.underlying22 Try.underlying5 Try.underlying9]
      have := run_bytesToString (P := Try.prog) w ⟨b, off, spot⟩ 0 c [] (by simpa using hl)
      exact this
  · exact run_convert_bytes_arg w _ _ Try.underlying22 Try.underlying5 b off _ c xs rfl (fun i hi => by rw [hc i hi]; simp) _ Try.underlying9
theorem str_eq {xs ys : List Int} (hx : isBytes xs) (hy : isBytes ys) : ((str xs).toList == (str ys).toList) = decide (xs = ys) := by
  rw [Bool.eq_iff_iff, beq_iff_eq, decide_eq_true_iff, ByteArray.toList_eq, ByteArray.toList_eq]
  constructor
  · intro h
    refine str_inj hx hy ?_
    have := Array.toList_inj.1 h
    cases hs : str xs; cases ht : str ys
    rw [hs, ht] at this
    simp at this
    rw [this]
  · rintro rfl; rfl
theorem same_any (A A' : Option Addr) (c c' : Nat) (xs ys : List Int) (w : World) (B B' : Nat) (hx : Mem w B A xs) (hy : Mem w B' A' ys) :
    Calls Try.prog 13 #[.slice A xs.length c, .slice A' ys.length c'] w fun e w' => e = .returned (.bool (decide (xs = ys))) ∧ w = w' := by
  have h1 := conv_bytes A c xs w B hx
  have h2 := conv_bytes A' c' ys w B' hy
  have H := hid (str_eq hx.1 hy.1)
  clear hx hy
  go_enter Try.func13, Try.ntmps13
  go_wp2
  go_ret
  exact ⟨ret_b H.out, rfl⟩
theorem same_of (A A' : Option Addr) (n m c c' : Nat) (xs ys : List Int) (w : World) (hx : ∃ B, Mem w B A xs) (hy : ∃ B, Mem w B A' ys) (hn : xs.length = n) (hm : ys.length = m) :
    Calls Try.prog 13 #[.slice A n c, .slice A' m c'] w fun e w' => e = .returned (.bool (decide (xs = ys))) ∧ w = w' := by
  subst hn hm; obtain ⟨B, hx⟩ := hx; obtain ⟨B', hy⟩ := hy; exact same_any A A' c c' xs ys w B B' hx hy

/-! ### a copy with room behind it -/
theorem make_bytes' (m : Int) (h0 : 0 ≤ m) (h1 : m ≤ 140737488355328) (W : World) :
    (Instr.makeSlice 22 (.int .i64 m) (.int .i64 m)).run Try.prog W =
      .ok (.slice (some ⟨W.heap.size, 0, none⟩) m.toNat m.toNat) (W.alloc (.cells (Array.replicate m.toNat (.int .u8 0)) 5)) := by
  obtain ⟨n, rfl⟩ := Int.eq_ofNat_of_zero_le h0
  rw [Int.toNat_natCast]
  exact make_bytes n (by omega) W
theorem splice_map {α β : Type} (f : α → β) (L cs : List α) (off : Nat) : splice (L.map f) off (cs.map f) = (splice L off cs).map f := by simp [splice, List.map_take, List.map_drop]
/-- copy of bytes into a block of the call's own. -/
theorem wpList_copy_bytes {w : World} {ops : Array Oper} {rest : List Oper} {o : Oper} {a : Act} {Q : Exit → Act → World → Prop} (hgd : o.guard = none) (d s : Operand)
    (ho : o.op = .call { callee := .builtin .copy, args := #[d, s], argTypes := #[22, 22] })
    (g off dLen dCap : Nat) (A : Option Addr) (sCap : Nat) (xs zs : List Int) (B' : Nat) (hd : a.eval d = .slice (some ⟨g, off, none⟩) dLen dCap) (hs : a.eval s = .slice A xs.length sCap)
    (t : TypeId) (hg : Blk w g t zs) (hx : Mem w B' A xs) (hn : off + min xs.length dLen ≤ zs.length)
    (B : Nat) (w0 : World) (hb : Below B w0 w) (hBg : B ≤ g)
    (h : ∀ w', Hid (Blk w' g t (splice zs off (xs.take dLen))) → Below B w0 w' → wpList Try.prog ops Q rest (a.put o.dst (goInt (xs.take dLen).length)) w') :
    wpList Try.prog ops Q (o :: rest) a w := by
  refine wpList_copy_splice hgd d s 22 22 ho 5 Try.underlying22 (by kernel_rfl) (some ⟨g, off, none⟩) A dLen dCap xs.length sCap hd hs g off (zs.map (Value.int .u8)) t hg
    ((xs.take dLen).map (Value.int .u8)) (by simp [Nat.min_comm]) ?_ (by simp; omega) (fun v hv => by obtain ⟨z, _, rfl⟩ := List.mem_map.1 hv; rfl) B w0 hb hBg ?_
  · intro hpos
    refine ⟨rfl, ?_⟩
    obtain ⟨_, rfl | ⟨b, o2, rfl, _, hc⟩⟩ := hx
    · simp at hpos
    · refine ⟨_, rfl, fun j v hj => ?_⟩
      have hadd : (⟨b, o2, none⟩ : Addr).add j = ⟨b, o2 + j, none⟩ := by unfold Addr.add; split <;> simp_all
      rw [hadd]
      simp only [List.getElem?_map, List.getElem?_take] at hj
      split at hj
      · rcases Nat.lt_or_ge j xs.length with hl | hl
        · rw [hc j hl, ← hj]; simp [hl]
        · rw [List.getElem?_eq_none hl] at hj; cases hj
      · cases hj
  · intro w' h1 h2
    rw [splice_map] at h1
    have := h w' h1 h2
    simpa using this

def mark (i : Nat) : Int := 160 + (i : Int) % 90
def lentTo (xs : List Int) (k : Nat) : List Int := xs ++ (List.range k).map (fun j => mark (xs.length + j)) ++ List.replicate (3 - k) 0
def lent (xs : List Int) : List Int := xs ++ (List.range 3).map (fun j => mark (xs.length + j))
theorem lent_length (xs : List Int) : (lent xs).length = xs.length + 3 := by simp [lent]
theorem lent_bytes {xs : List Int} (h : isBytes xs) : isBytes (lent xs) := by
  refine h.append fun z hz => ?_
  simp only [List.mem_map] at hz
  obtain ⟨j, _, rfl⟩ := hz
  unfold mark; omega
theorem lentTo_length (xs : List Int) (k : Nat) (h : k ≤ 3) : (lentTo xs k).length = xs.length + 3 := by simp [lentTo]; omega
theorem lentTo_set (xs : List Int) (k : Nat) (h : k < 3) : (lentTo xs k).set (xs.length + k) (mark (xs.length + k)) = lentTo xs (k + 1) := by
  unfold lentTo
  rw [List.set_append_right _ _ (by simp)]
  simp only [List.length_append, List.length_map, List.length_range, Nat.sub_self, List.range_succ, List.map_append, List.map_cons, List.map_nil, List.append_assoc]
  congr 2
  obtain ⟨d, hd⟩ : ∃ d, 3 - k = d + 1 := ⟨3 - k - 1, by omega⟩
  rw [hd, show 3 - (k + 1) = d by omega]
  rfl
theorem lentTo_all (xs : List Int) : lentTo xs 3 = lent xs := by simp [lentTo, lent]
theorem splice_zero (xs : List Int) : splice (List.replicate (xs.length + 3) 0) 0 (xs.take (xs.length + 3)) = lentTo xs 0 := by
  rw [List.take_of_length_le (by omega)]
  simp [splice, lentTo]

theorem lent_any (A : Option Addr) (c : Nat) (xs : List Int) (w : World) (B : Nat) (hx : Mem w B A xs) (hl : xs.length ≤ 100000000) (hB : B ≤ w.heap.size) :
    Calls Try.prog 8 #[.slice A xs.length c] w fun e w' =>
      e = .returned (.slice (some ⟨w.heap.size, 0, none⟩) xs.length (xs.length + 3)) ∧ Below w.heap.size w w' ∧ Blk w' w.heap.size 5 (lent xs) := by
  have hmk := make_bytes' ((xs.length : Int) + 3) (by omega) (by omega)
  have HX := hid hx
  clear hx
  go_enter Try.func8, Try.ntmps8
  go_wp2_with (refine wpList_copy_bytes rfl _ _ rfl w.heap.size 0 (xs.length + 3) (xs.length + 3) A c xs (List.replicate (xs.length + 3) 0) w.heap.size rfl rfl 5 (Blk.zeros _ _ _) ?c1 ?c2 w.heap.size w ((Below.refl _ _).alloc (Nat.le_refl _) _) (Nat.le_refl _) ?_)
  case c1 => exact (HX.out.mono hB).keep fun p hp => World.cell?_alloc_lt w _ p hp
  case c2 => simp
  intro w1 hblk hbel
  have HK := hid (show Blk w1 w.heap.size 5 (lentTo xs 0) by rw [← splice_zero]; exact hblk.out)
  have HB := hid hbel
  clear hblk hbel hmk
  go_wp2
  go_loopw [4] (fun i wr => ∃ k : Nat, k ≤ 3 ∧ i = .int .i64 ((xs.length : Int) + k) ∧ Below w.heap.size w wr ∧ Blk wr w.heap.size 5 (lentTo xs k)) (fun i _ => xs.length + 3 - (intOf i).toNat)
  case atStart => exact ⟨0, by omega, by simp, HB.out, HK.out⟩
  case round =>
    obtain ⟨k, hk, rfl, hbel, hblk⟩ := hrel
    by_cases hk3 : k < 3
    · have hcell := hblk.cell (xs.length + k) (by rw [lentTo_length _ _ hk]; omega)
      have hfr := hblk.frozen (xs.length + k)
      have HB1 := hid hbel
      have hm : mark (xs.length + k) = 160 + ((xs.length : Int) + (k : Int)) % 90 := by simp [mark]
      have HL := hid (show Blk (wr.setCell ⟨w.heap.size, xs.length + k, none⟩ (.int .u8 (160 + ((xs.length : Int) + (k : Int)) % 90))) _ _ (lentTo xs (k + 1)) by rw [← lentTo_set xs k hk3, ← hm]; exact hblk.set_ _ _)
      clear hbel hblk hm
      go_wp2
      go_roundw
      case rel => exact ⟨k + 1, by omega, by go_num, HB1.out.setCell (Nat.le_refl _) _, HL.out⟩
      case measure => simp [intOf]; omega
    · have hk' : k = 3 := by omega
      rw [hk', lentTo_all] at hblk
      have HB1 := hid hbel
      have HL := hid hblk
      clear hbel hblk hk'
      go_wp2
      go_ret
      exact ⟨rfl, HB1.out, HL.out⟩
end Go.Proofs.Ytlmhiokfkelflaa
