/-
  A row of bytes of the call's own, known whole, the room behind it too: nil, or at the head of a block; a byte more by append.
-/
import Derived.Test.YtgioggpehlhbfaaFKept
namespace Go.Proofs.Ytgioggpehlhbfaa
open Go.RowKit
set_option maxRecDepth 100000

/-- The slice v is the bytes xs, of the call's own (from block base on); all of its block is bytes. -/
def RowZ (w : World) (base : Nat) (v : Value) (xs : List Int) : Prop :=
  isBytes xs ∧ ((v = .slice none 0 0 ∧ xs = []) ∨
    ∃ g zs, v = .slice (some ⟨g, 0, none⟩) xs.length zs.length ∧ base ≤ g ∧ ByB w g 5 zs ∧ zs.take xs.length = xs ∧ xs.length ≤ zs.length ∧ zs.length ≤ maxLen)
theorem RowZ.nil (w : World) (base : Nat) : RowZ w base (.slice none 0 0) [] := ⟨by simp [isBytes], .inl ⟨rfl, rfl⟩⟩
theorem RowZ.mono {w : World} {base base' : Nat} {v : Value} {xs : List Int} (h : RowZ w base v xs) (hb : base' ≤ base) : RowZ w base' v xs := by
  refine ⟨h.1, ?_⟩
  rcases h.2 with h0 | ⟨g, zs, e, hg, r⟩
  · exact .inl h0
  · exact .inr ⟨g, zs, e, by omega, r⟩
theorem RowZ.same {w w' : World} {base : Nat} {v : Value} {xs : List Int} (h : RowZ w base v xs) (hk : ∀ g (cs : Array Value), base ≤ g → w.heap[g]? = some (.cells cs 5 (0, 0)) → w'.heap[g]? = w.heap[g]?) : RowZ w' base v xs := by
  refine ⟨h.1, ?_⟩
  rcases h.2 with h0 | ⟨g, zs, e, hg, hz, r⟩
  · exact .inl h0
  · exact .inr ⟨g, zs, e, hg, (hk g _ hg hz).trans hz, r⟩
theorem RowZ.below {w w' : World} {base : Nat} {v : Value} {xs : List Int} (h : RowZ w base v xs) (hb : Below w.heap.size w w') : RowZ w' base v xs := h.same fun g _ _ hg => hb.block g (Array.getElem?_eq_some_iff.1 hg).1
theorem RowZ.alloc {w : World} {base : Nat} {v : Value} {xs : List Int} (h : RowZ w base v xs) (o : Obj) : RowZ (w.alloc o) base v xs := h.below ((Below.refl _ _).alloc (Nat.le_refl _) _)
theorem RowZ.drew {w : World} {base : Nat} {v : Value} {xs : List Int} (h : RowZ w base v xs) : RowZ w.drew base v xs := h.same fun _ _ _ _ => rfl
theorem row_at {xs zs : List Int} (ht : zs.take xs.length = xs) {i : Nat} (hi : i < xs.length) : zs[i]? = xs[i]? := by
  have h := List.getElem?_take (l := zs) (i := xs.length) (j := i)
  rw [ht, if_pos hi] at h
  exact h.symm
theorem RowZ.form {w : World} {base : Nat} {v : Value} {xs : List Int} (h : RowZ w base v xs) : ∃ A c, v = .slice A xs.length c ∧ Mem w w.heap.size A xs ∧ xs.length ≤ c ∧ c ≤ 9223372036854775807 := by
  rcases h.2 with ⟨rfl, rfl⟩ | ⟨g, zs, rfl, hg, hz, ht, hl, hm⟩
  · exact ⟨none, 0, rfl, Mem.nil _ _ _, by simp, by omega⟩
  · refine ⟨_, _, rfl, ⟨h.1, .inr ⟨g, 0, rfl, hz.lt, fun i hi => ?_⟩⟩, hl, by unfold maxLen at hm; omega⟩
    rw [Nat.zero_add, hz.cell i (by omega), ← row_at ht hi]
theorem RowZ.far {w : World} {base : Nat} {v : Value} {xs : List Int} (h : RowZ w base v xs) {g : Nat} {cs : Array Value} {t : TypeId} (hg : w.heap[g]? = some (.cells cs t (0, 0))) (ht : t ≠ 5) : some g ≠ v.ownBlock := by
  rcases h.2 with ⟨rfl, _⟩ | ⟨k, zs, rfl, _, hz, _⟩
  · simp [Value.ownBlock]
  · intro e
    obtain rfl : g = k := by simpa [Value.ownBlock] using e
    have := hg.symm.trans hz
    simp at this
    exact ht this.2
theorem RowZ.own {w : World} {base : Nat} {v : Value} {xs : List Int} (h : RowZ w base v xs) : ∀ k, v.ownBlock = some k → base ≤ k := by
  intro k hk
  rcases h.2 with ⟨rfl, _⟩ | ⟨g, zs, rfl, hg, _⟩
  · simp [Value.ownBlock] at hk
  · simp [Value.ownBlock] at hk; omega
theorem zeroCells_bytes (n : Nat) : Builtin.zeroCells #[Value.int .u8 0] n = Array.replicate n (.int .u8 0) := by
  apply Array.ext
  · simp [Builtin.zeroCells]
  · intro j a b
    simp [Builtin.zeroCells, Nat.mod_one]
/-- A new block: bytes, and zeros behind them. -/
theorem RowZ.new (w : World) (base n C : Nat) (xs : List Int) (hx : isBytes xs) (hn : xs.length = n) (hC : n ≤ C) (hm : C ≤ maxLen) (hb : base ≤ w.heap.size) :
    RowZ (w.drew.alloc (.cells ((xs.map (Value.int .u8)).toArray ++ Builtin.zeroCells #[Value.int .u8 0] (C - n)) 5)) base (.slice (some ⟨w.heap.size, 0, none⟩) n C) xs := by
  subst hn
  have hl : (xs ++ List.replicate (C - xs.length) 0).length = C := by simp; omega
  refine ⟨hx, .inr ⟨w.heap.size, xs ++ List.replicate (C - xs.length) 0, by rw [hl], hb, ?_, by simp, by omega, by omega⟩⟩
  have := heap_alloc_new w.drew (.cells ((xs.map (Value.int .u8)).toArray ++ Builtin.zeroCells #[Value.int .u8 0] (C - xs.length)) 5)
  unfold ByB
  refine this.trans ?_
  rw [zeroCells_bytes]
  congr 2
  simp
/-- append of one byte onto such a row. -/
theorem run_append_rowz (base : Nat) (v : Value) (xs : List Int) (w : World) (h : RowZ w base v xs) (hs : xs.length ≤ 1000) (hb : base ≤ w.heap.size)
    (q c : Nat) (z : Int) (hq : w.cell? ⟨q, 0, none⟩ = some (.int .u8 z)) (hz : 0 ≤ z ∧ z < 256) (ty : TypeId) :
    ∃ v' w', (Builtin.append_ #[22, 22] ty #[v, .slice (some ⟨q, 0, none⟩) 1 c]).run Try.prog w = .ok v' w' ∧ RowZ w' base v' (xs ++ [z]) ∧ w.grownBy w' v.ownBlock := by
  obtain ⟨i0, hi, hz0, hz1, hz2⟩ := info_parts infoByte
  have hx : isBytes (xs ++ [z]) := h.1.append (by intro y hy; simp at hy; omega)
  have hnews : ∀ j u, ([z].map (Value.int .u8))[j]? = some u → w.cell? ((⟨q, 0, none⟩ : Addr).add j) = some u := by
    intro j u hu
    rcases j with _ | j
    · simp at hu; subst hu; exact hq
    · simp at hu
  rcases h.2 with ⟨rfl, rfl⟩ | ⟨g, zs, rfl, hg, hB, ht, hl, hm⟩
  · have hr := run_append_nil (P := Try.prog) w 22 ty 5 i0 (.int .u8 0) Try.underlying22 hi hz0 ⟨q, 0, none⟩ 1 c ([z].map (Value.int .u8)) (by simp [hz1]) hnews (by omega) (by omega) (by omega)
    refine ⟨_, _, hr, ?_, ⟨rfl, rfl, rfl, by simp, fun k hk _ => Below.heap_alloc w.drew _ k hk⟩⟩
    exact RowZ.new w base 1 _ [z] hx rfl (grownCap_ge _ _ _ _) (grownCap_le_maxLen _ _ _ _ (by simp [maxLen])) hb
  · by_cases hroom : xs.length + 1 ≤ zs.length
    · have hr := run_append_room (P := Try.prog) w 22 ty 5 i0 Try.underlying22 hi g xs.length zs.length _ hB ⟨q, 0, none⟩ 1 c ([z].map (Value.int .u8)) (by simp [hz1]) hnews (fun v hv => by obtain ⟨z, _, rfl⟩ := List.mem_map.1 hv; rfl) hroom (by simp [hz1]; omega)
      have hlen : (xs ++ [z] ++ zs.drop (xs.length + 1)).length = zs.length := by simp; omega
      refine ⟨_, _, hr, ⟨hx, .inr ⟨g, xs ++ [z] ++ zs.drop (xs.length + 1), by rw [hlen]; simp, hg, ?_, by rw [List.take_left], by rw [hlen]; simp; omega, by omega⟩⟩, ⟨rfl, rfl, rfl, by simp, fun k _ hk => setRow_other w g k _ (fun e => hk (by simp [Value.ownBlock, e]))⟩⟩
      have := setRow_heap w g _ ((List.take (xs.length * i0.size) (List.map (Value.int IntKind.u8) zs).toArray.toList ++ List.map (Value.int IntKind.u8) [z]) ++ List.drop (xs.length * i0.size + (List.map (Value.int IntKind.u8) [z]).length) (List.map (Value.int IntKind.u8) zs).toArray.toList).toArray 5 (0, 0) hB
      unfold ByB
      refine this.trans ?_
      simp only [hz1, Nat.mul_one, ← List.map_take, ht, ← List.map_drop, List.length_map, List.length_singleton]
      simp
    · have hr := run_append_grow (P := Try.prog) w 22 ty 5 i0 (.int .u8 0) Try.underlying22 hi hz0 ⟨g, 0, none⟩ xs.length zs.length (xs.map (Value.int .u8)) (by simp [hz1]) ?_ ⟨q, 0, none⟩ 1 c ([z].map (Value.int .u8)) (by simp [hz1]) hnews (by omega) (by omega) (growslice_fits (by omega) (by rw [hz2]; omega))
      · refine ⟨_, _, hr, ?_, ⟨rfl, rfl, rfl, by simp, fun k hk _ => Below.heap_alloc w.drew _ k hk⟩⟩
        have := RowZ.new w base (xs.length + 1) (grownCap w (xs.length + 1) zs.length 5) (xs ++ [z]) hx (by simp) (grownCap_ge _ _ _ _) (grownCap_le_maxLen _ _ _ _ (by unfold maxLen; omega)) hb
        have e : (Value.int .u8 0).cells = #[Value.int .u8 0] := rfl
        rw [← e] at this
        simpa using this
      · intro j u hu
        have hadd : (⟨g, 0, none⟩ : Addr).add j = ⟨g, j, none⟩ := by unfold Addr.add; split <;> simp_all
        rw [hadd]
        rw [List.getElem?_map] at hu
        rcases Nat.lt_or_ge j xs.length with hj | hj
        · rw [hB.cell j (by omega), ← hu]
          rw [row_at ht hj]; simp [hj]
        · rw [List.getElem?_eq_none hj] at hu; cases hu
theorem wpList_append_rowz {w : World} {ops : Array Oper} {rest : List Oper} {o : Oper} {a : Act} {Q : Exit → Act → World → Prop} (hgd : o.guard = none) (s x : Operand)
    (ho : o.op = .call { callee := .builtin .append, args := #[s, x], argTypes := #[22, 22] })
    (base : Nat) (v : Value) (xs : List Int) (hs : a.eval s = v) (h : RowZ w base v xs) (hl : xs.length ≤ 1000) (hb : base ≤ w.heap.size)
    (q c : Nat) (z : Int) (hx : a.eval x = .slice (some ⟨q, 0, none⟩) 1 c) (hq : w.cell? ⟨q, 0, none⟩ = some (.int .u8 z)) (hz : 0 ≤ z ∧ z < 256)
    (hk : ∀ v' w', Hid (RowZ w' base v' (xs ++ [z])) → Hid (w.grownBy w' v.ownBlock) → wpList Try.prog ops Q rest (a.put o.dst v') w') : wpList Try.prog ops Q (o :: rest) a w := by
  obtain ⟨v', w', hr, h1, h2⟩ := run_append_rowz base v xs w h hl hb q c z hq hz o.type
  refine wpList_plain hgd fun K hK => ?_
  unfold Oper.wp execOp
  simp only [ho, resolve, invoke, builtin, Sem.run_bind, Sem.run_pure, Result.andThen_ok, List.map_toArray, List.map_cons, List.map_nil, hs, hx, hr]
  exact hK _ _ (hk v' w' (hid h1) (hid h2))
/-- All of a row's block is written over. -/
theorem overz_any (base : Nat) (v : Value) (xs : List Int) (w : World) (h : RowZ w base v xs) :
    Calls Try.prog 10 #[v] w fun e w' => e = .returned (.tuple #[]) ∧ Below base w w' := by
  rcases h.2 with ⟨rfl, rfl⟩ | ⟨g, zs, rfl, hg, hB, ht, hl, hm⟩
  · clear h
    go_enter Try.func10, Try.ntmps10
    go_wp2
    refine wp_loop_rounds 1 ?_
    rw [rounds_succ]
    go_wp2
    go_end0
    exact ⟨rfl, Below.refl _ _⟩
  · have e3 : (zs.length : Int) ≤ 9223372036854775807 := by unfold maxLen at hm; omega
    have HB := hid hB
    have HG := hid hg
    have e4 := hl
    clear h hB ht hm hl hg
    have e2 : (0 : Int) ≤ (zs.length : Int) := by omega
    generalize xs.length = n at e4
    go_enter Try.func10, Try.ntmps10
    go_wp2
    go_loopw [3] (fun i wr => ∃ (k : Nat) (ys : List Int), k ≤ zs.length ∧ ys.length = zs.length ∧ i = .int .i64 k ∧ Below base w wr ∧ ByB wr g 5 ys) (fun i _ => zs.length - (intOf i).toNat)
    case atStart => exact ⟨0, zs, by omega, rfl, rfl, Below.refl _ _, HB.out⟩
    case round =>
      obtain ⟨k, ys, hk, hys, rfl, hbel, hblk⟩ := hrel
      by_cases hks : k < zs.length
      · have hcell := hblk.cell k (by omega)
        have hfr := hblk.frozen k
        have HB := hid hbel
        have HL := hid (hblk.set_ k (bits .xor .u8 (ys[k]?.getD 0) 90))
        have HY := hid (show (ys.set k (bits .xor .u8 (ys[k]?.getD 0) 90)).length = zs.length by simpa using hys)
        clear hbel hblk hys
        go_wp2
        go_roundw
        case rel => exact ⟨k + 1, _, by omega, HY.out, by go_num, HB.out.setCell HG.out _, HL.out⟩
        case measure => simp [intOf]; omega
      · have HB := hid hbel
        clear hbel hblk hys
        go_wp2
        go_end0
        exact ⟨rfl, HB.out⟩
end Go.Proofs.Ytgioggpehlhbfaa
