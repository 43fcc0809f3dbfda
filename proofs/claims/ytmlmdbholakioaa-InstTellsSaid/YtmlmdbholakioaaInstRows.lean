/-
  The canon of instructions, plainly; rows of operands that a call makes.
-/
import Derived.Test.YtmlmdbholakioaaInstPlain
namespace Go.Proofs.Ytmlmdbholakioaa
open Go.RowKit

/-- An operand's canon, within an instruction whose immediates have so many bits. -/
def canA (b : Int × Bool) (a : Ar) : Ar := if a.k = 3 then { aoutF a with n := immV a.n b.1 b.2 } else aoutF a
def canL (op : Int) (l : List Ar) : List Ar := l.map (canA (bitsF op l))
theorem canL_length (op : Int) (l : List Ar) : (canL op l).length = l.length := by simp [canL]
theorem canL_get {op : Int} {l : List Ar} {i : Nat} {a : Ar} (h : l[i]? = some a) : (canL op l)[i]? = some (canA (bitsF op l) a) := by simp [canL, h]
theorem aout_kind {a : Ar} (h : argF a = 0) : (aoutF a).k = a.k := by
  unfold aoutF
  rw [if_pos h]
  split
  · rfl
  · split <;> rfl
theorem aout_num {a : Ar} (h : argF a = 0) (hk : a.k = 3) : (aoutF a).n = a.n := by
  unfold aoutF
  rw [if_pos h, if_neg (by omega), if_neg (by omega)]
theorem canA_imm {b : Int × Bool} {a x : Ar} (hx : aoutF a = x) (h : argF a = 0) (hk : x.k = 3) : canA b a = ⟨x.k, x.rc, x.rn, x.m, immV x.n b.1 b.2⟩ := by
  subst hx
  have hk' : a.k = 3 := (aout_kind h).symm.trans hk
  unfold canA
  rw [if_pos hk', aout_num h hk']
theorem canA_other {b : Int × Bool} {a x : Ar} (hx : aoutF a = x) (h : argF a = 0) (hk : ¬ x.k = 3) : canA b a = x := by
  subst hx
  unfold canA
  rw [if_neg (fun e => hk ((aout_kind h).trans e))]
/-- Are there two operands, of these kinds? -/
def isF (l : List Ar) (p q : Int) : Bool :=
  match l with
  | [x, y] => x.k == p && y.k == q
  | _ => false
def twF (l : List Ar) : List Ar :=
  match l with
  | [x, y] => [x, x, y]
  | _ => l
def swF (l : List Ar) : List Ar :=
  match l with
  | [x, y] => [y, x]
  | _ => l
/-- Are these registers of one class? -/
def clF (l : List Ar) : Bool :=
  match l with
  | [x, y] => x.rc == y.rc
  | _ => false
/-- Has the first one the greater number? -/
def gtF (l : List Ar) : Bool :=
  match l with
  | [x, y] => decide (y.rn < x.rn)
  | _ => false
/-- The order in which operands are written best. -/
def orderF (op : Int) (l : List Ar) : List Ar :=
  if op = 16 then (if isF l 1 3 then twF l else l) else if op = 10 then (if isF l 1 2 then swF l else l) else if op = 11 then (if isF l 1 2 then swF l else if isF l 1 1 then (if clF l && gtF l then swF l else l) else l) else l
def icanF (op : Int) (l : List Ar) : List Ar := orderF op (canL op l)
theorem isF_two {l : List Ar} {p q : Int} (h : isF l p q = true) : ∃ x y, l = [x, y] ∧ x.k = p ∧ y.k = q := by
  match l, h with
  | [x, y], h => simp [isF] at h; exact ⟨x, y, rfl, h.1, h.2⟩
theorem isF_not {l : List Ar} (h : l.length ≠ 2) (p q : Int) : isF l p q = false := by
  match l, h with
  | [], _ => rfl
  | [_], _ => rfl
  | [_, _], h => exact absurd rfl h
  | _ :: _ :: _ :: _, _ => rfl
theorem swF_length (l : List Ar) : (swF l).length = l.length := by
  match l with
  | [] => rfl
  | [_] => rfl
  | [_, _] => rfl
  | _ :: _ :: _ :: _ => rfl
theorem order_length (op : Int) (l : List Ar) (h : l.length ≤ 4) : (orderF op l).length ≤ 4 := by
  have h1 : (twF l).length ≤ 4 := by
    match l, h with
    | [], _ => decide
    | [_], h => exact h
    | [_, _], _ => simp [twF]
    | _ :: _ :: _ :: _, h => exact h
  have h2 := swF_length l
  unfold orderF
  (repeat' split) <;> omega
/-- The cells of some operands, one behind the other. -/
def cellsA (l : List Ar) : List Value := l.flatMap AC
theorem cellsA_length (l : List Ar) : (cellsA l).length = l.length * 11 := by
  induction l with
  | nil => rfl
  | cons a r ih => show (AC a ++ cellsA r).length = _; rw [List.length_append, ih]; simp; omega
theorem cellsA_append (l r : List Ar) : cellsA (l ++ r) = cellsA l ++ cellsA r := by simp [cellsA]
theorem cellsA_one (a : Ar) : cellsA [a] = AC a := by simp [cellsA]
theorem cellsA_get {l : List Ar} {i : Nat} {a : Ar} (h : l[i]? = some a) {j : Nat} (hj : j < 11) : (cellsA l)[i * 11 + j]? = (AC a)[j]? := by
  induction l generalizing i with
  | nil => simp at h
  | cons x r ih =>
    show (AC x ++ cellsA r)[i * 11 + j]? = _
    rcases i with _ | i
    · simp at h
      subst h
      rw [Nat.zero_mul, Nat.zero_add, List.getElem?_append_left (by simpa using hj)]
    · simp at h
      rw [List.getElem?_append_right (by simp; omega)]
      have e : (i + 1) * 11 + j - (AC x).length = i * 11 + j := by simp; omega
      rw [e]
      exact ih h
/-- A row of operands that was made above base, and may be written. -/
def OwnA (base : Nat) (w : World) (A : Option Addr) (l : List Ar) : Prop :=
  l = [] ∨ ∃ g cs, A = some ⟨g, 0, none⟩ ∧ base ≤ g ∧ w.heap[g]? = some (.cells cs 42 (0, 0)) ∧ ∀ i a, l[i]? = some a → ∀ j, j < 11 → cs[i * 11 + j]? = (AC a)[j]?
theorem OwnA.args {base : Nat} {w : World} {A : Option Addr} {l : List Ar} (h : OwnA base w A l) : Args w w.heap.size A l := by
  rcases h with rfl | ⟨g, cs, rfl, hb, hg, hc⟩
  · left; rfl
  · refine .inr ⟨g, 0, rfl, (Array.getElem?_eq_some_iff.1 hg).1, fun i a hi j hj => ?_⟩
    rw [Nat.zero_add, cell_of_row w g _ cs 42 (0, 0) hg]
    exact hc i a hi j hj
theorem OwnA.below {base : Nat} {w w' : World} {A : Option Addr} {l : List Ar} (h : OwnA base w A l) (hb : Below w.heap.size w w') : OwnA base w' A l := by
  rcases h with rfl | ⟨g, cs, rfl, hge, hg, hc⟩
  · left; rfl
  · exact .inr ⟨g, cs, rfl, hge, (hb.block g (Array.getElem?_eq_some_iff.1 hg).1).trans hg, hc⟩
theorem OwnA.mono {base base' : Nat} {w : World} {A : Option Addr} {l : List Ar} (h : OwnA base w A l) (hb : base' ≤ base) : OwnA base' w A l := by
  rcases h with rfl | ⟨g, cs, rfl, hge, hg, hc⟩
  · left; rfl
  · exact .inr ⟨g, cs, rfl, by omega, hg, hc⟩
theorem OwnA.row {base : Nat} {w : World} {v : Value} {l : List Ar} (h : w.ownsRow base 42 11 v l.length (cellsA l)) : ∃ A cap, v = .slice A l.length cap ∧ OwnA base w A l := by
  rcases h.2 with ⟨rfl, h0⟩ | ⟨g, cap, cur, rfl, hb, hg, _, _, hs, htake⟩
  · exact ⟨none, 0, by rw [h0], .inl (List.length_eq_zero_iff.1 h0)⟩
  · refine ⟨_, cap, rfl, .inr ⟨g, cur, rfl, hb, hg, fun i a hi j hj => ?_⟩⟩
    rw [← cellsA_get hi hj, ← htake, List.getElem?_take]
    obtain ⟨hil, _⟩ := List.getElem?_eq_some_iff.1 hi
    rw [if_pos (by omega)]
    simp
/-- New blocks by their cells. -/
theorem cells_new (w : World) (vs : List Value) (t : TypeId) : ∀ (j : Nat) x, vs[j]? = some x → (w.alloc (.cells vs.toArray t)).cell? ((⟨w.heap.size, 0, none⟩ : Addr).add j) = some x := by
  intro j x hj
  have hadd : (⟨w.heap.size, 0, none⟩ : Addr).add j = ⟨w.heap.size, j, none⟩ := by unfold Addr.add; split <;> simp_all
  rw [hadd, cell_of_row _ w.heap.size j vs.toArray t (0, 0) (heap_alloc_new w _)]
  simpa using hj
theorem cells_at (w : World) (vs : List Value) (t : TypeId) {g : Nat} (hg : g = w.heap.size) : ∀ (j : Nat) x, vs[j]? = some x → (w.alloc (.cells vs.toArray t)).cell? ((⟨g, 0, none⟩ : Addr).add j) = some x := by
  subst hg; exact cells_new w vs t
theorem OwnA.new {w : World} {l : List Ar} {cs : Array Value} (h : cs = (cellsA l).toArray) : OwnA w.heap.size (w.alloc (.cells cs 42)) (some ⟨w.heap.size, 0, none⟩) l := by
  subst h
  exact .inr ⟨_, _, rfl, Nat.le_refl _, heap_alloc_new w _, fun i a hi j hj => by rw [← cellsA_get hi hj]; simp⟩
theorem OwnA.made {w : World} {l : List Ar} {cs : Array Value} {g base : Nat} (h : cs = (cellsA l).toArray) (hg : g = w.heap.size) (hb : base ≤ g) : OwnA base (w.alloc (.cells cs 42)) (some ⟨g, 0, none⟩) l := by
  subst hg; exact (OwnA.new h).mono hb
theorem OwnA.set {base : Nat} {w : World} {A : Option Addr} {l : List Ar} (h : OwnA base w A l) (b o : Nat) (v : Value) (hb : b < base) : OwnA base (w.setCell ⟨b, o, none⟩ v) A l := by
  rcases h with rfl | ⟨g, cs, rfl, hge, hg, hc⟩
  · left; rfl
  · exact .inr ⟨g, cs, rfl, hge, (Below.heap_setCell w ⟨b, o, none⟩ v g (by simp only [ne_eq]; omega)).trans hg, hc⟩
theorem OwnA.drew {base : Nat} {w : World} {A : Option Addr} {l : List Ar} (h : OwnA base w A l) : OwnA base w.drew A l := h
theorem OwnA.drewN {base : Nat} {w : World} {A : Option Addr} {l : List Ar} (h : OwnA base w A l) (n : Nat) : OwnA base (w.drewN n) A l := h
/-- What a row that the call makes keeps, behind what leaves its block alone. -/
theorem row_same {w w' : World} {base size n : Nat} {e : TypeId} {v : Value} {xs : List Value} (h : w.ownsRow base e size v n xs) (hb : ∀ g, v.ownBlock = some g → w'.heap[g]? = w.heap[g]?) : w'.ownsRow base e size v n xs := by
  refine ⟨h.1, ?_⟩
  rcases h.2 with hn | ⟨g, cap, cur, rfl, hge, hg, rest⟩
  · exact .inl hn
  · exact .inr ⟨g, cap, cur, rfl, hge, (hb g rfl).trans hg, rest⟩
theorem row_form {w : World} {base size n : Nat} {e : TypeId} {v : Value} {xs : List Value} (h : w.ownsRow base e size v n xs) : ∃ V cp, v = .slice V n cp := by
  rcases h.2 with ⟨rfl, rfl⟩ | ⟨g, cap, cur, rfl, _⟩
  · exact ⟨_, _, rfl⟩
  · exact ⟨_, _, rfl⟩
theorem row_call {w w' : World} {base size n : Nat} {e : TypeId} {v : Value} {xs : List Value} (h : w.ownsRow base e size v n xs) (hb : Below w.heap.size w w') : w'.ownsRow base e size v n xs :=
  row_same h fun g hg => hb.block g (h.lt g hg).2
theorem row_set {w : World} {base size n : Nat} {e : TypeId} {v : Value} {xs : List Value} (h : w.ownsRow base e size v n xs) (b o : Nat) (u : Value) (hlt : b < base) : (w.setCell ⟨b, o, none⟩ u).ownsRow base e size v n xs :=
  row_same h fun g hg => Below.heap_setCell w ⟨b, o, none⟩ u g (by have := (h.lt g hg).1; simp only [ne_eq]; omega)
theorem Own.grown {w wx wy : World} {l : List Blk} {row : Option Nat} (h : Own w l wx) (hg : wx.grownBy wy row) (hr : ∀ k, row = some k → w.heap.size ≤ k ∧ ∀ x ∈ l, x.b ≠ k) : Own w l wy := by
  refine ⟨h.1.grown hg h.1.size (fun k hk => (hr k hk).1), fun x hx => ⟨(h.2.1 x hx).1, ?_⟩, h.2.2⟩
  rw [hg.block x.b (h.lt hx) (fun e => (hr x.b e.symm).2 x hx rfl)]
  exact (h.2.1 x hx).2
theorem Own.drewN {w wx : World} {l : List Blk} (h : Own w l wx) (n : Nat) : Own w l (wx.drewN n) := ⟨bdrewN h.1 n, h.2.1, h.2.2⟩
theorem two_alloc (w : World) (o o' : Obj) : Below w.heap.size w ((w.alloc o).alloc o') := (((Below.refl w.heap.size w).alloc (Nat.le_refl _) o).alloc (by simp) o')
theorem Args.call {w w' : World} {A : Option Addr} {l : List Ar} (h : Args w w.heap.size A l) (hb : Below w.heap.size w w') : Args w' w'.heap.size A l := (h.below hb).mono hb.size
theorem infoArg : (Try.prog.info? 42).map (fun i => (i.zero, i.size, i.bytes)) = some (some (.agg #[.int .i64 0, .int .i64 0, .int .i64 0, .int .i64 0, .int .i64 0, .int .i64 0, .int .i64 0, .int .i64 0, .int .i64 0, .int .i64 0, .int .i64 0]), 11, 88) := by kernel_rfl
end Go.Proofs.Ytmlmdbholakioaa
