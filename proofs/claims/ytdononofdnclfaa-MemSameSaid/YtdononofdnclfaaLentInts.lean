/-
  A list of ints that is lent with room behind it, and held against what it was.
-/
import Derived.Test.YtdononofdnclfaaAddr
import Derived.Laws.BytesArg
import Derived.Laws.CopyOwn
import Derived.WalkKit
import Derived.WalkSpells
import Derived.Deep.RegionHeld3
namespace Go.Proofs.Ytdononofdnclfaa
open Go.RowKit

theorem infoInt : (Try.prog.info? 3).map (fun i => (i.zero, i.size, i.bytes)) = some (some (.int .i64 0), 1, 8) := by kernel_rfl
set_option maxRecDepth 100000 in
/-- A new block of ints, all 0. -/
theorem make_ints (n : Nat) (hn : n ≤ 10000000000) (W : World) :
    (Instr.makeSlice 32 (.int .i64 (n : Int)) (.int .i64 (n : Int))).run Try.prog W =
      .ok (.slice (some ⟨W.heap.size, 0, none⟩) n n) (W.alloc (.cells (Array.replicate n (.int .i64 0)) 3)) := by
  obtain ⟨i, hi, hz, h1, h2⟩ := info_parts infoInt
  have hr := run_make (P := Try.prog) W 32 3 i (.int .i64 0) Try.underlying32 hi hz .i64 .i64 n n (by omega) (by omega) (by rw [h2]; omega) (by omega)
  rw [hr]
  congr 1
  congr 2
  simp only [Int.toNat_natCast, h1, Nat.mul_one]
  apply Array.ext
  · simp [madeCells]
  · intro j a b
    simp [madeCells, Value.cells, Nat.mod_one]
theorem make_ints' (m : Int) (h0 : 0 ≤ m) (h1 : m ≤ 10000000000) (W : World) :
    (Instr.makeSlice 32 (.int .i64 m) (.int .i64 m)).run Try.prog W =
      .ok (.slice (some ⟨W.heap.size, 0, none⟩) m.toNat m.toNat) (W.alloc (.cells (Array.replicate m.toNat (.int .i64 0)) 3)) := by
  obtain ⟨n, rfl⟩ := Int.eq_ofNat_of_zero_le h0
  rw [Int.toNat_natCast]
  exact make_ints n (by omega) W
/-- Block g is just the ints zs, and may be written. -/
def IBlk (w : World) (g : Nat) (zs : List Int) : Prop := w.heap[g]? = some (.cells (zs.map (Value.int .i64)).toArray 3 (0, 0))
theorem IBlk.zeros (W : World) (n : Nat) : IBlk (W.alloc (.cells (Array.replicate n (.int .i64 0)) 3)) W.heap.size (List.replicate n 0) := by
  have := alloc_new W (.cells (Array.replicate n (.int .i64 0)) 3)
  unfold IBlk
  rw [this]
  simp
theorem IBlk.lt {w : World} {g : Nat} {zs : List Int} (h : IBlk w g zs) : g < w.heap.size := by
  rcases Nat.lt_or_ge g w.heap.size with hlt | hge
  · exact hlt
  · unfold IBlk at h; rw [Array.getElem?_eq_none hge] at h; cases h
theorem IBlk.cell {w : World} {g : Nat} {zs : List Int} (h : IBlk w g zs) (i : Nat) (hi : i < zs.length) : w.cell? ⟨g, i, none⟩ = some (.int .i64 (zs[i]?.getD 0)) := by
  have := cell_of_row w g i _ 3 (0, 0) h
  rw [this]
  simp [hi]
theorem IBlk.frozen {w : World} {g : Nat} {zs : List Int} (h : IBlk w g zs) (i : Nat) : w.frozen? ⟨g, i, none⟩ = false := by
  unfold IBlk at h
  simp [World.frozen?, h]
theorem IBlk.ints {w : World} {g B : Nat} {zs : List Int} (h : IBlk w g zs) (hB : g < B) (n : Nat) : Ints w B (some ⟨g, 0, none⟩) (zs.take n) :=
  .inr ⟨g, 0, rfl, hB, fun i hi => by
    rw [List.length_take] at hi
    rw [Nat.zero_add, h.cell i (by omega), List.getElem?_take, if_pos (by omega)]⟩
theorem IBlk.all {w : World} {g B : Nat} {zs : List Int} (h : IBlk w g zs) (hB : g < B) : Ints w B (some ⟨g, 0, none⟩) zs := .inr ⟨g, 0, rfl, hB, fun i hi => by rw [Nat.zero_add]; exact h.cell i hi⟩
theorem IBlk.below {w w' : World} {g B : Nat} {zs : List Int} (h : IBlk w g zs) (hb : Below B w w') (hg : g < B) : IBlk w' g zs := (hb.block g hg).trans h
theorem IBlk.set_ {w : World} {g : Nat} {zs : List Int} (h : IBlk w g zs) (i : Nat) (z : Int) : IBlk (w.setCell ⟨g, i, none⟩ (.int .i64 z)) g (zs.set i z) := by
  unfold IBlk at h ⊢
  simp [World.setCell, Array.getElem?_modify, h, List.map_set]
theorem isplice_map {α β : Type} (f : α → β) (L cs : List α) (off : Nat) : splice (L.map f) off (cs.map f) = (splice L off cs).map f := by simp [splice, List.map_take, List.map_drop]
/-- copy of ints into a block of the call's own. -/
theorem wpList_copy_ints {w : World} {ops : Array Oper} {rest : List Oper} {o : Oper} {a : Act} {Q : Exit → Act → World → Prop} (hgd : o.guard = none) (d s : Operand)
    (ho : o.op = .call { callee := .builtin .copy, args := #[d, s], argTypes := #[32, 32] })
    (g off dLen dCap : Nat) (A : Option Addr) (sCap : Nat) (xs zs : List Int) (B' : Nat) (hd : a.eval d = .slice (some ⟨g, off, none⟩) dLen dCap) (hs : a.eval s = .slice A xs.length sCap)
    (hg : IBlk w g zs) (hx : Ints w B' A xs) (hn : off + min xs.length dLen ≤ zs.length)
    (B : Nat) (w0 : World) (hb : Below B w0 w) (hBg : B ≤ g)
    (h : ∀ w', Hid (IBlk w' g (splice zs off (xs.take dLen))) → Below B w0 w' → wpList Try.prog ops Q rest (a.put o.dst (goInt (xs.take dLen).length)) w') :
    wpList Try.prog ops Q (o :: rest) a w := by
  refine wpList_copy_splice hgd d s 32 32 ho 3 Try.underlying32 (by kernel_rfl) (some ⟨g, off, none⟩) A dLen dCap xs.length sCap hd hs g off (zs.map (Value.int .i64)) 3 hg
    ((xs.take dLen).map (Value.int .i64)) (by simp [Nat.min_comm]) ?_ (by simp; omega) (fun v hv => by obtain ⟨z, _, rfl⟩ := List.mem_map.1 hv; rfl) B w0 hb hBg ?_
  · intro hpos
    refine ⟨rfl, ?_⟩
    rcases hx with rfl | ⟨b, o2, rfl, _, hc⟩
    · simp at hpos
    · refine ⟨_, rfl, fun j v hj => ?_⟩
      have hadd : (⟨b, o2, none⟩ : Addr).add j = ⟨b, o2 + j, none⟩ := by unfold Addr.add; split <;> simp_all
      rw [hadd]
      simp only [List.getElem?_map, List.getElem?_take] at hj
      split at hj
      · rcases Nat.lt_or_ge j xs.length with hl | hl
        · rw [hc j hl, ← hj]; simp [hl]
        · rw [List.getElem?_eq_none hl] at hj; cases hj
      · cases hj
  · intro w' h1 h2
    rw [isplice_map] at h1
    have := h w' h1 h2
    simpa using this

def mark (i : Nat) : Int := -77 - (i : Int)
def lentTo (xs : List Int) (k : Nat) : List Int := xs ++ (List.range k).map (fun j => mark (xs.length + j)) ++ List.replicate (3 - k) 0
def lent (xs : List Int) : List Int := xs ++ (List.range 3).map (fun j => mark (xs.length + j))
theorem lent_length (xs : List Int) : (lent xs).length = xs.length + 3 := by simp [lent]
theorem lent_take (xs : List Int) : (lent xs).take xs.length = xs := by simp [lent]
theorem lentTo_length (xs : List Int) (k : Nat) (h : k ≤ 3) : (lentTo xs k).length = xs.length + 3 := by simp [lentTo]; omega
theorem lentTo_set (xs : List Int) (k : Nat) (h : k < 3) : (lentTo xs k).set (xs.length + k) (mark (xs.length + k)) = lentTo xs (k + 1) := by
  unfold lentTo
  rw [List.set_append_right _ _ (by simp)]
  simp only [List.length_append, List.length_map, List.length_range, Nat.sub_self, List.range_succ, List.map_append, List.map_cons, List.map_nil, List.append_assoc]
  congr 2
  obtain ⟨d, hd⟩ : ∃ d, 3 - k = d + 1 := ⟨3 - k - 1, by omega⟩
  rw [hd, show 3 - (k + 1) = d by omega]
  rfl
theorem lentTo_all (xs : List Int) : lentTo xs 3 = lent xs := by simp [lentTo, lent]
theorem splice_zero (xs : List Int) : splice (List.replicate (xs.length + 3) 0) 0 (xs.take (xs.length + 3)) = lentTo xs 0 := by
  rw [List.take_of_length_le (by omega)]
  simp [splice, lentTo]
set_option maxHeartbeats 1000000 in
theorem lent_any (A : Option Addr) (c : Nat) (xs : List Int) (w : World) (hx : Ints w w.heap.size A xs) (hl : xs.length ≤ 20) :
    Calls Try.prog 15 #[.slice A xs.length c] w fun e w' =>
      e = .returned (.slice (some ⟨w.heap.size, 0, none⟩) xs.length (xs.length + 3)) ∧ Below w.heap.size w w' ∧ IBlk w' w.heap.size (lent xs) := by
  have hmk := make_ints' ((xs.length : Int) + 3) (by omega) (by omega)
  have HX := hid hx
  clear hx
  go_enter Try.func15, Try.ntmps15
  go_wp2_with (refine wpList_copy_ints rfl _ _ rfl w.heap.size 0 (xs.length + 3) (xs.length + 3) A c xs (List.replicate (xs.length + 3) 0) w.heap.size rfl rfl (IBlk.zeros _ _) ?c1 ?c2 w.heap.size w ((Below.refl _ _).alloc (Nat.le_refl _) _) (Nat.le_refl _) ?_)
  case c1 => exact HX.out.below ((Below.refl _ _).alloc (Nat.le_refl _) _)
  case c2 => simp
  intro w1 hblk hbel
  have HK := hid (show IBlk w1 w.heap.size (lentTo xs 0) by rw [← splice_zero]; exact hblk.out)
  have HB := hid hbel
  clear hblk hbel hmk
  go_wp2
  go_loopw [4] (fun i wr => ∃ k : Nat, k ≤ 3 ∧ i = .int .i64 ((xs.length : Int) + k) ∧ Below w.heap.size w wr ∧ IBlk wr w.heap.size (lentTo xs k)) (fun i _ => xs.length + 3 - (intOf i).toNat)
  case atStart => exact ⟨0, by omega, by simp, HB.out, HK.out⟩
  case round =>
    obtain ⟨k, hk, rfl, hbel, hblk⟩ := hrel
    by_cases hk3 : k < 3
    · have hcell := hblk.cell (xs.length + k) (by rw [lentTo_length _ _ hk]; omega)
      have hfr := hblk.frozen (xs.length + k)
      have HB1 := hid hbel
      have hm : mark (xs.length + k) = -77 - ((xs.length : Int) + (k : Int)) := by simp [mark]
      have HL := hid (show IBlk (wr.setCell ⟨w.heap.size, xs.length + k, none⟩ (.int .i64 (-77 - ((xs.length : Int) + (k : Int))))) _ (lentTo xs (k + 1)) by rw [← lentTo_set xs k hk3, ← hm]; exact hblk.set_ _ _)
      clear hbel hblk hm
      go_wp2
      go_roundw
      case rel => exact ⟨k + 1, by omega, by go_num, HB1.out.setCell (Nat.le_refl _) _, HL.out⟩
      case measure => simp [intOf]; omega
    · have hk' : k = 3 := by omega
      rw [hk', lentTo_all] at hblk
      have HB1 := hid hbel
      have HL := hid hblk
      clear hbel hblk hk'
      go_wp2
      go_ret
      exact ⟨rfl, HB1.out, HL.out⟩
set_option maxHeartbeats 1000000 in
/-- Two lists that read alike. -/
theorem same_true (A A' : Option Addr) (n c c' : Nat) (xs : List Int) (w : World) (hn : xs.length = n) (hl : n ≤ 100) (hx : Ints w w.heap.size A xs) (hy : Ints w w.heap.size A' xs) :
    Calls Try.prog 33 #[.slice A n c, .slice A' n c'] w fun e w' => e = .returned (.bool true) ∧ Below w.heap.size w w' := by
  have HX := hid hx
  have HY := hid hy
  have HN := hid hn
  clear hx hy hn
  go_enter Try.func33, Try.ntmps33
  go_wp2
  go_loopw [5] (fun i wr => ∃ k : Nat, k ≤ n ∧ i = .int .i64 k ∧ Below w.heap.size w wr) (fun i _ => n - (intOf i).toNat)
  case atStart => exact ⟨0, by omega, rfl, Below.refl _ _⟩
  case round =>
    obtain ⟨k, hk, rfl, hbel⟩ := hrel
    have HB := hid hbel
    by_cases hlt : k < n
    · rcases HX.out.below hbel with h0 | ⟨b, off, rfl, _, hc⟩
      · have := HN.out; rw [h0] at this; simp at this; omega
      rcases HY.out.below hbel with h0 | ⟨b', off', rfl, _, hc'⟩
      · have := HN.out; rw [h0] at this; simp at this; omega
      have hcell := hc k (by rw [HN.out]; exact hlt)
      have hcell' := hc' k (by rw [HN.out]; exact hlt)
      generalize xs[k]?.getD 0 = x at hcell hcell'
      clear hc hc' hbel
      go_wp2_with fail
      go_quiet (fail)
      go_wp2_with fail
      go_roundw
      case rel => exact ⟨k + 1, by omega, by go_num, bdrewN HB.out _⟩
      case measure => simp [intOf]; omega
    · clear hbel
      go_wp2
      go_ret
      exact ⟨rfl, HB.out⟩
end Go.Proofs.Ytdononofdnclfaa
