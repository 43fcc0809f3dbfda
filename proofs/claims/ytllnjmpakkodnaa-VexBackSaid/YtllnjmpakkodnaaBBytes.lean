/-
  Words for bytes that the call makes: a block of zeros, a string out of bytes, bytes by append, and the small function that compares bytes.
-/
import Derived.Test.YtllnjmpakkodnaaCell
import Derived.Test.YtllnjmpakkodnaaBMem
import Derived.RegionTactic
import Derived.Laws.BytesArg
import Derived.Laws.CopyOwn
namespace Go.Proofs.Ytllnjmpakkodnaa
open Go.RowKit

theorem infoByte : (Try.prog.info? 5).map (fun i => (i.zero, i.size, i.bytes)) = some (some (.int .u8 0), 1, 1) := by kernel_rfl
set_option maxRecDepth 100000 in
/-- A new block of bytes, all 0. -/
theorem make_bytes (n : Nat) (hn : n ≤ 140737488355328) (W : World) :
    (Instr.makeSlice 31 (.int .i64 (n : Int)) (.int .i64 (n : Int))).run Try.prog W =
      .ok (.slice (some ⟨W.heap.size, 0, none⟩) n n) (W.alloc (.cells (Array.replicate n (.int .u8 0)) 5)) := by
  obtain ⟨i, hi, hz, h1, h2⟩ := info_parts infoByte
  have hr := run_make (P := Try.prog) W 31 5 i (.int .u8 0) Try.underlying31 hi hz .i64 .i64 n n (by omega) (by omega) (by rw [h2]; omega) (by omega)
  rw [hr]
  congr 1
  congr 2
  simp only [Int.toNat_natCast, h1, Nat.mul_one]
  apply Array.ext
  · simp [madeCells]
  · intro j a b
    simp [madeCells, Value.cells, Nat.mod_one]
theorem ByB.zeros (W : World) (n : Nat) (t : TypeId) : ByB (W.alloc (.cells (Array.replicate n (.int .u8 0)) t)) W.heap.size t (List.replicate n 0) := by
  have := heap_alloc_new W (.cells (Array.replicate n (.int .u8 0)) t)
  unfold ByB
  rw [this]
  simp
theorem own_mem {w : World} {base B n : Nat} {t : TypeId} {A : Option Addr} {m c : Nat} {zs : List Int} (h : w.ownsRow base t 1 (.slice A m c) n (zs.map (Value.int .u8))) (hz : isBytes zs) (hB : w.heap.size ≤ B) : Mem w B A zs ∧ zs.length = n := by
  have hl : zs.length = n := by have := h.1; simpa using this
  refine ⟨⟨hz, ?_⟩, hl⟩
  rcases h.2 with ⟨_, hn⟩ | ⟨g, cap, cur, hv, _, hg, _⟩
  · left; exact List.eq_nil_of_length_eq_zero (by omega)
  · injection hv with hv
    subst hv
    refine .inr ⟨g, 0, rfl, by have := (Array.getElem?_eq_some_iff.1 hg).1; omega, fun i hi => ?_⟩
    have := h.cells (g := g) rfl i (.int .u8 (zs[i]?.getD 0)) (by simp [hi])
    have hadd : (⟨g, 0, none⟩ : Addr).add i = ⟨g, i, none⟩ := by unfold Addr.add; split <;> simp_all
    rw [hadd] at this
    rw [Nat.zero_add]
    exact this
theorem own_form {w : World} {base n : Nat} {t : TypeId} {v : Value} {xs : List Value} (h : w.ownsRow base t 1 v n xs) : ∃ A c, v = .slice A n c := by
  rcases h.2 with ⟨rfl, rfl⟩ | ⟨g, cap, cur, hv, _, hg, _⟩
  · exact ⟨none, 0, rfl⟩
  · exact ⟨_, cap, hv⟩
theorem one_new (w : World) (v : Value) (t : TypeId) : ∀ j u, [v][j]? = some u → (w.alloc (.cells #[v] t)).cell? ((⟨w.heap.size, 0, none⟩ : Addr).add j) = some u := cell_one_new _ _ _
/-! ### strings out of bytes -/
def str (xs : List Int) : ByteArray := strOfNums xs
theorem str_inj {xs ys : List Int} (hx : isBytes xs) (hy : isBytes ys) (h : str xs = str ys) : xs = ys := by
  have e : xs.map (fun n => UInt8.ofNat n.toNat) = ys.map (fun n => UInt8.ofNat n.toNat) := by
    have := congrArg (fun b : ByteArray => b.data.toList) h
    simpa [str, strOfNums_data] using this
  have back : ∀ l : List Int, isBytes l → (l.map (fun n => UInt8.ofNat n.toNat)).map (fun u => (u.toNat : Int)) = l := by
    intro l hl
    rw [List.map_map]
    conv => rhs; rw [← List.map_id l]
    refine List.map_congr_left fun z hz => ?_
    have := hl z hz
    simp
    omega
  rw [← back xs hx, ← back ys hy, e]
theorem conv_bytes (A : Option Addr) (c : Nat) (xs : List Int) (w : World) (B : Nat) (hx : Mem w B A xs) :
    (convert 31 9 (.slice A xs.length c)).run Try.prog w = .ok (.string (str xs)) w := by
  obtain ⟨hb, rfl | ⟨b, off, rfl, _, hc⟩⟩ := hx
  · rcases A with _ | ⟨b, off, spot⟩
    · exact run_convert_bytes_nil w _ _ Try.underlying31 Try.underlying5 _ _ _ Try.underlying9
    · have hl : (loadCells ⟨b, off, spot⟩ 0).run Try.prog w = .ok #[] w := by
        have := run_loadCells_list (P := Try.prog) w ⟨b, off, spot⟩ [] (fun j v hj => by simp at hj)
        simpa using this
      rw [run_convert_bytes_string w _ _ _ _ _ c Try.underlying31 Try.underlying5 Try.underlying9]
      have := run_bytesToString (P := Try.prog) w ⟨b, off, spot⟩ 0 c [] (by simpa using hl)
      exact this
  · exact run_convert_bytes_arg w _ _ Try.underlying31 Try.underlying5 b off _ c xs rfl (fun i hi => by rw [hc i hi]; simp) _ Try.underlying9
theorem str_eq {xs ys : List Int} (hx : isBytes xs) (hy : isBytes ys) : ((str xs).toList == (str ys).toList) = decide (xs = ys) := by
  rw [Bool.eq_iff_iff, beq_iff_eq, decide_eq_true_iff, ByteArray.toList_eq, ByteArray.toList_eq]
  constructor
  · intro h
    refine str_inj hx hy ?_
    have := Array.toList_inj.1 h
    cases hs : str xs; cases ht : str ys
    rw [hs, ht] at this
    simp at this
    rw [this]
  · rintro rfl; rfl
theorem same_any (A A' : Option Addr) (c c' : Nat) (xs ys : List Int) (w : World) (B B' : Nat) (hx : Mem w B A xs) (hy : Mem w B' A' ys) :
    Calls Try.prog 13 #[.slice A xs.length c, .slice A' ys.length c'] w fun e w' => e = .returned (.bool (decide (xs = ys))) ∧ w = w' := by
  have h1 := conv_bytes A c xs w B hx
  have h2 := conv_bytes A' c' ys w B' hy
  have H := hid (str_eq hx.1 hy.1)
  clear hx hy
  go_enter Try.func13, Try.ntmps13
  go_wp2
  go_ret
  exact ⟨ret_b H.out, rfl⟩
theorem same_of (A A' : Option Addr) (n m c c' : Nat) (xs ys : List Int) (w : World) (hx : ∃ B, Mem w B A xs) (hy : ∃ B, Mem w B A' ys) (hn : xs.length = n) (hm : ys.length = m) :
    Calls Try.prog 13 #[.slice A n c, .slice A' m c'] w fun e w' => e = .returned (.bool (decide (xs = ys))) ∧ w = w' := by
  subst hn hm; obtain ⟨B, hx⟩ := hx; obtain ⟨B', hy⟩ := hy; exact same_any A A' c c' xs ys w B B' hx hy
/-! ### a copy with room behind it -/
theorem make_bytes' (m : Int) (h0 : 0 ≤ m) (h1 : m ≤ 140737488355328) (W : World) :
    (Instr.makeSlice 31 (.int .i64 m) (.int .i64 m)).run Try.prog W =
      .ok (.slice (some ⟨W.heap.size, 0, none⟩) m.toNat m.toNat) (W.alloc (.cells (Array.replicate m.toNat (.int .u8 0)) 5)) := by
  obtain ⟨n, rfl⟩ := Int.eq_ofNat_of_zero_le h0
  rw [Int.toNat_natCast]
  exact make_bytes n (by omega) W
theorem splice_map {α β : Type} (f : α → β) (L cs : List α) (off : Nat) : splice (L.map f) off (cs.map f) = (splice L off cs).map f := by simp [splice, List.map_take, List.map_drop]
/-- copy of bytes into a block of the call's own. -/
theorem wpList_copy_bytes {w : World} {ops : Array Oper} {rest : List Oper} {o : Oper} {a : Act} {Q : Exit → Act → World → Prop} (hgd : o.guard = none) (d s : Operand)
    (ho : o.op = .call { callee := .builtin .copy, args := #[d, s], argTypes := #[31, 31] })
    (g off dLen dCap : Nat) (A : Option Addr) (sCap : Nat) (xs zs : List Int) (B' : Nat) (hd : a.eval d = .slice (some ⟨g, off, none⟩) dLen dCap) (hs : a.eval s = .slice A xs.length sCap)
    (t : TypeId) (hg : ByB w g t zs) (hx : Mem w B' A xs) (hn : off + min xs.length dLen ≤ zs.length)
    (B : Nat) (w0 : World) (hb : Below B w0 w) (hBg : B ≤ g)
    (h : ∀ w', Hid (ByB w' g t (splice zs off (xs.take dLen))) → Below B w0 w' → wpList Try.prog ops Q rest (a.put o.dst (goInt (xs.take dLen).length)) w') :
    wpList Try.prog ops Q (o :: rest) a w := by
  refine wpList_copy_splice hgd d s 31 31 ho 5 Try.underlying31 (by kernel_rfl) (some ⟨g, off, none⟩) A dLen dCap xs.length sCap hd hs g off (zs.map (Value.int .u8)) t hg
    ((xs.take dLen).map (Value.int .u8)) (by simp [Nat.min_comm]) ?_ (by simp; omega) (fun v hv => by obtain ⟨z, _, rfl⟩ := List.mem_map.1 hv; rfl) B w0 hb hBg ?_
  · intro hpos
    refine ⟨rfl, ?_⟩
    obtain ⟨_, rfl | ⟨b, o2, rfl, _, hc⟩⟩ := hx
    · simp at hpos
    · refine ⟨_, rfl, fun j v hj => ?_⟩
      have hadd : (⟨b, o2, none⟩ : Addr).add j = ⟨b, o2 + j, none⟩ := by unfold Addr.add; split <;> simp_all
      rw [hadd]
      simp only [List.getElem?_map, List.getElem?_take] at hj
      split at hj
      · rcases Nat.lt_or_ge j xs.length with hl | hl
        · rw [hc j hl, ← hj]; simp [hl]
        · rw [List.getElem?_eq_none hl] at hj; cases hj
      · cases hj
  · intro w' h1 h2
    rw [splice_map] at h1
    have := h w' h1 h2
    simpa using this
end Go.Proofs.Ytllnjmpakkodnaa
