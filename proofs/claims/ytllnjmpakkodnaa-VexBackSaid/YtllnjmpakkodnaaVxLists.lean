/-
  Lists of bytes in memory of the call's own, each in a block of its own, known whole; one more by append.
-/
import Derived.Test.YtllnjmpakkodnaaVxLay
import Derived.Test.YtllnjmpakkodnaaBBytes
import Derived.Deep.AppendLies
namespace Go.Proofs.Ytllnjmpakkodnaa
open Go.RowKit
set_option maxRecDepth 100000

theorem turn_trans {a b c : World} {row : Option Nat} (h : a.grownBy b row) (k : b.grownBy c row) : a.grownBy c row :=
  ⟨k.os.trans h.os, k.tape.trans h.tape, k.output.trans h.output, Nat.le_trans h.size k.size, fun q hq hr => (k.block q (Nat.lt_of_lt_of_le hq h.size) hr).trans (h.block q hq hr)⟩
/-- Own blocks are kept where another one grows. -/
theorem Own.grow {w wx wy : World} {l : List Blk} {row : Option Nat} (h : Own w l wx) (hg : wx.grownBy wy row) (hr : ∀ k, row = some k → w.heap.size ≤ k ∧ ∀ x ∈ l, x.b ≠ k) : Own w l wy :=
  ⟨h.1.grown hg h.1.size (fun k hk => (hr k hk).1), fun x hx => ⟨(h.2.1 x hx).1, (hg.block x.b (h.lt hx) (fun e => (hr x.b e.symm).2 x hx rfl)).trans (h.2.1 x hx).2⟩, h.2.2⟩
/-- A list of bytes, and its block. -/
structure Zr where
  g : Nat
  bs : List Int
def zv (z : Zr) : Value := .slice (some ⟨z.g, 0, none⟩) z.bs.length z.bs.length
def Lists (w : World) (base : Nat) (v : Value) (Z : List Zr) : Prop :=
  w.ownsRow base 31 1 v Z.length (Z.map zv) ∧ (∀ z ∈ Z, base ≤ z.g ∧ ByB w z.g 5 z.bs) ∧ (Z.map Zr.g).Nodup
theorem infoBs : (Try.prog.info? 31).map (fun i => (i.zero, i.size, i.bytes)) = some (some (.slice none 0 0), 1, 24) := by kernel_rfl
theorem Lists.nil (w : World) (base : Nat) : Lists w base (.slice none 0 0) [] := ⟨World.ownsRow_nil _ _ _ _, (fun _ h => by cases h), List.nodup_nil⟩
theorem owns_same {w w' : World} {base n size : Nat} {e : TypeId} {v : Value} {xs : List Value} (h : w.ownsRow base e size v n xs) (hk : ∀ (k : Nat) (cs : Array Value) (t : TypeId) (f : Nat × Nat), base ≤ k → w.heap[k]? = some (Obj.cells cs t f) → w'.heap[k]? = w.heap[k]?) : w'.ownsRow base e size v n xs := by
  refine ⟨h.1, ?_⟩
  rcases h.2 with h0 | ⟨g, cap, cur, e1, e2, e3, rest⟩
  · exact .inl h0
  · exact .inr ⟨g, cap, cur, e1, e2, (hk _ _ _ _ e2 e3).trans e3, rest⟩
theorem owns_down {w : World} {base base' n size : Nat} {e : TypeId} {v : Value} {xs : List Value} (h : w.ownsRow base e size v n xs) (hb : base' ≤ base) : w.ownsRow base' e size v n xs := by
  refine ⟨h.1, ?_⟩
  rcases h.2 with h0 | ⟨g, cap, cur, e1, e2, rest⟩
  · exact .inl h0
  · exact .inr ⟨g, cap, cur, e1, by omega, rest⟩
theorem Lists.below {w w' : World} {base : Nat} {v : Value} {Z : List Zr} (h : Lists w base v Z) (hb : Below w.heap.size w w') : Lists w' base v Z :=
  ⟨owns_same h.1 fun k _ _ _ _ hk => hb.block k (Array.getElem?_eq_some_iff.1 hk).1, fun z hz => ⟨(h.2.1 z hz).1, (h.2.1 z hz).2.below hb (h.2.1 z hz).2.lt⟩, h.2.2⟩
theorem Lists.alloc {w : World} {base : Nat} {v : Value} {Z : List Zr} (h : Lists w base v Z) (o : Obj) : Lists (w.alloc o) base v Z := h.below ((Below.refl _ _).alloc (Nat.le_refl _) _)
theorem Lists.drew {w : World} {base : Nat} {v : Value} {Z : List Zr} (h : Lists w base v Z) : Lists w.drew base v Z := h.below (Below.refl _ _).drew
theorem Lists.mono {w : World} {base base' : Nat} {v : Value} {Z : List Zr} (h : Lists w base v Z) (hb : base' ≤ base) : Lists w base' v Z := ⟨owns_down h.1 hb, fun z hz => ⟨Nat.le_trans hb (h.2.1 z hz).1, (h.2.1 z hz).2⟩, h.2.2⟩
theorem Lists.set {w : World} {base : Nat} {v : Value} {Z : List Zr} (h : Lists w base v Z) {b : Nat} (hb : b < base) (i : Nat) (u : Value) : Lists (w.setCell ⟨b, i, none⟩ u) base v Z :=
  ⟨owns_same h.1 fun k _ _ _ hk _ => Below.heap_setCell _ _ _ _ (show k ≠ b by omega), fun z hz => ⟨(h.2.1 z hz).1, (Below.heap_setCell _ _ _ _ (show z.g ≠ b by have := (h.2.1 z hz).1; omega)).trans (h.2.1 z hz).2⟩, h.2.2⟩
theorem Lists.own {w : World} {base : Nat} {v : Value} {Z : List Zr} (h : Lists w base v Z) : ∀ k, v.ownBlock = some k → base ≤ k := fun k hk => (h.1.lt k hk).1
/-- Bytes' blocks aren't the list's. -/
theorem Lists.apart {w : World} {base : Nat} {v : Value} {Z : List Zr} (h : Lists w base v Z) {g : Nat} {zs : List Int} (hg : ByB w g 5 zs) : some g ≠ v.ownBlock := by
  rcases h.1.2 with ⟨rfl, _⟩ | ⟨k, cap, cur, rfl, _, hk, _⟩
  · simp [Value.ownBlock]
  · intro e
    obtain rfl : g = k := by simpa [Value.ownBlock] using e
    have := hk.symm.trans hg
    simp at this
theorem Lists.more {w w' : World} {base : Nat} {v v' : Value} {Z : List Zr} {z : Zr} (h : Lists w base v Z) (hz : ByB w z.g 5 z.bs) (hb : base ≤ z.g) (hn : z.g ∉ Z.map Zr.g) (hg : w.grownBy w' v.ownBlock) (ho : w'.ownsRow base 31 1 v' (Z.length + 1) (Z.map zv ++ [zv z])) : Lists w' base v' (Z ++ [z]) := by
  refine ⟨by rw [List.length_append, List.map_append]; exact ho, fun x hx => ?_, ?_⟩
  · rcases List.mem_append.1 hx with hx | hx
    · exact ⟨(h.2.1 x hx).1, (hg.block x.g (h.2.1 x hx).2.lt (h.apart (h.2.1 x hx).2)).trans (h.2.1 x hx).2⟩
    · simp at hx; subst hx
      exact ⟨hb, (hg.block x.g hz.lt (h.apart hz)).trans hz⟩
  · rw [List.map_append, List.nodup_append]
    refine ⟨h.2.2, by simp, fun a ha b hb' => ?_⟩
    simp at hb'
    subst hb'
    exact fun e => hn (e ▸ ha)
theorem Lists.not_new {w : World} {base : Nat} {v : Value} {Z : List Zr} (h : Lists w base v Z) {g : Nat} (hg : w.heap.size ≤ g) : g ∉ Z.map Zr.g := by
  intro hm
  obtain ⟨z, hz, rfl⟩ := List.mem_map.1 hm
  have := (h.2.1 z hz).2.lt
  omega
theorem wpList_append_list {w : World} {ops : Array Oper} {rest : List Oper} {o : Oper} {a : Act} {Q : Exit → Act → World → Prop} (hgd : o.guard = none) (s x : Operand)
    (ho : o.op = .call { callee := .builtin .append, args := #[s, x], argTypes := #[24, 24] })
    (base : Nat) (v : Value) (Z : List Zr) (z : Zr) (hs : a.eval s = v) (h : Lists w base v Z) (hl : Z.length ≤ 10)
    (q c : Nat) (hx : a.eval x = .slice (some ⟨q, 0, none⟩) 1 c) (hq : w.cell? ⟨q, 0, none⟩ = some (zv z)) (hz : ByB w z.g 5 z.bs) (hb : base ≤ z.g) (hn : z.g ∉ Z.map Zr.g) (hbase : base ≤ w.heap.size)
    (K : ∀ v' w', Hid (Lists w' base v' (Z ++ [z])) → Hid (w.grownBy w' v.ownBlock) → wpList Try.prog ops Q rest (a.put o.dst v') w') : wpList Try.prog ops Q (o :: rest) a w := by
  obtain ⟨i0, hi, hz0, hz1, hz2⟩ := info_parts infoBs
  refine wpList_append_own _ hgd s x 24 ho base 31 i0 _ 1 24 Try.underlying24 hi hz0 hz1 hz2 rfl (by decide) v Z.length (Z.map zv) hs h.1 ⟨q, 0, none⟩ 1 c [zv z] hx rfl ?_ ?_ (by simp [maxLen]; omega) (by omega) hbase ?_
  · intro j u hu
    rcases j with _ | j
    · simp at hu; subst hu; exact hq
    · simp at hu
  · intro u hu
    simp at hu; subst hu; rfl
  intro v' w' h1 h2 _
  exact K v' w' (hid (h.more hz hb hn h2 h1)) (hid h2)
/-- The same where a region draws its order. -/
theorem step_append_list {w : World} {ops : Array Oper} {o : Oper} {a : Act} {K : Act → World → Prop} {Q : Exit → Act → World → Prop} {E : Prop} (hgd : o.guard = none) (s x : Operand)
    (ho : o.op = .call { callee := .builtin .append, args := #[s, x], argTypes := #[24, 24] })
    (base : Nat) (v : Value) (Z : List Zr) (z : Zr) (hs : a.eval s = v) (h : Lists w base v Z) (hl : Z.length ≤ 10)
    (q c : Nat) (hx : a.eval x = .slice (some ⟨q, 0, none⟩) 1 c) (hq : w.cell? ⟨q, 0, none⟩ = some (zv z)) (hz : ByB w z.g 5 z.bs) (hb : base ≤ z.g) (hn : z.g ∉ Z.map Zr.g) (hbase : base ≤ w.heap.size)
    (h : ∀ g' n' c' w', Hid (Lists w' base (.slice (some ⟨g', 0, none⟩) n' c') (Z ++ [z])) → Hid (w.grownBy w' v.ownBlock) → K (a.put o.dst (.slice (some ⟨g', 0, none⟩) n' c')) w') :
    if Region.wanted o (yielded ops a.tmps) = true then Oper.wp Try.prog o a w K Q else E := by
  rename_i hL
  obtain ⟨i0, hi, hz0, hz1, hz2⟩ := info_parts infoBs
  refine step_append_lies w hgd s x 24 ho base 31 i0 _ 1 24 Try.underlying24 hi hz0 hz1 hz2 rfl (by decide) v Z.length (Z.map zv) hs hL.1 ⟨q, 0, none⟩ 1 c [zv z] hx rfl ?_ ?_ (by decide) (by simp [maxLen]; omega) (by omega) hbase _ rfl ?_
  · intro j u hu
    rcases j with _ | j
    · simp at hu; subst hu; exact hq
    · simp at hu
  · intro u hu
    simp at hu; subst hu; rfl
  · intro g' cap w' ho' hg' _ _
    exact h g' _ cap w' (hid (hL.more hz hb hn hg' ho')) (hid hg')
/-- The box of the contents is kept where a list above it grows. -/
theorem own_app {w wx wy : World} {cs : Array Value} {t : TypeId} (h : Own w [⟨w.heap.size, cs, t⟩] wx) {v : Value} {Z : List Zr} (hL : Lists wx (w.heap.size + 1) v Z) (hg : wx.grownBy wy v.ownBlock) : Own w [⟨w.heap.size, cs, t⟩] wy :=
  h.grow hg (fun k hk => by have := hL.own k hk; exact ⟨by omega, fun x hx => by simp at hx; subst hx; simp only [ne_eq]; omega⟩)
theorem byb_alloc {w : World} {g : Nat} {t : TypeId} {zs : List Int} (h : ByB w g t zs) (o : Obj) : ByB (w.alloc o) g t zs := (Below.heap_alloc _ _ _ h.lt).trans h
theorem cell_box (w : World) (v : Value) (t : TypeId) : (w.alloc (.cells #[v] t)).cell? ⟨w.heap.size, 0, none⟩ = some v := cell_of_row _ _ 0 _ _ _ (heap_alloc_new w _)
theorem own_box {w wx : World} {l : List Blk} (h : Own w l wx) (o : Obj) : Own w l (wx.alloc o) := h.call ((Below.refl _ _).alloc (Nat.le_refl _) o)
end Go.Proofs.Ytllnjmpakkodnaa
