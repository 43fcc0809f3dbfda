/-
  Operands written over in a row of the call's own; the copy that slices.Clone makes.
-/
import Derived.Test.YtmlmdbholakioaaInstWith
import Derived.Test.YtmlmdbholakioaaInstCheck
import Derived.Lib.SliceRun
namespace Go.Proofs.Ytmlmdbholakioaa
open Go.RowKit

/-- Forget of a world all but what is said of it. -/
theorem wp_gen {P : Program} {c : Code} {Q : Exit → Act → World → Prop} {a : Act} {w : World} (S : World → Prop) (hS : S w) (h : ∀ w', S w' → c.wp P Q a w') : c.wp P Q a w := h w hS
def putC (cs : Array Value) (o : Nat) : List Value → Array Value
  | [] => cs
  | v :: vs => putC (cs.setIfInBounds o v) (o + 1) vs
def putW (w : World) (g o : Nat) : List Value → World
  | [] => w
  | v :: vs => putW (w.setCell ⟨g, o, none⟩ v) g (o + 1) vs
theorem putC_get (vs : List Value) : ∀ (cs : Array Value) (o i : Nat), (putC cs o vs)[i]? = if o ≤ i ∧ i < o + vs.length ∧ i < cs.size then vs[i - o]? else cs[i]? := by
  induction vs with
  | nil => intro cs o i; simp [putC]; intro h1 h2; omega
  | cons v vs ih =>
    intro cs o i
    show (putC (cs.setIfInBounds o v) (o + 1) vs)[i]? = _
    rw [ih, Array.getElem?_setIfInBounds, Array.size_setIfInBounds]
    by_cases h1 : o = i
    · subst h1
      rw [if_neg (by omega), if_pos rfl]
      by_cases h2 : o < cs.size
      · simp [h2]
      · rw [if_neg h2, if_neg (by omega), Array.getElem?_eq_none (by omega)]
    · rw [if_neg h1]
      by_cases h2 : o + 1 ≤ i ∧ i < o + 1 + vs.length ∧ i < cs.size
      · rw [if_pos h2, if_pos (by simp; omega)]
        obtain ⟨d, rfl⟩ : ∃ d, i = o + 1 + d := ⟨i - (o + 1), by omega⟩
        rw [show o + 1 + d - (o + 1) = d by omega, show o + 1 + d - o = d + 1 by omega]
        simp
      · rw [if_neg h2, if_neg (by simp; omega)]
theorem putW_heap {g : Nat} {t : TypeId} (vs : List Value) : ∀ (w : World) (o : Nat) (cs : Array Value), w.heap[g]? = some (.cells cs t (0, 0)) → (putW w g o vs).heap[g]? = some (.cells (putC cs o vs) t (0, 0)) := by
  induction vs with
  | nil => intro w o cs h; exact h
  | cons v vs ih => intro w o cs h; exact ih _ _ _ (heap_setCell_same _ _ _ _ _ _ h)
theorem putW_other {g b : Nat} (hb : b ≠ g) (vs : List Value) : ∀ (w : World) (o : Nat), (putW w g o vs).heap[b]? = w.heap[b]? := by
  induction vs with
  | nil => intro w o; rfl
  | cons v vs ih => intro w o; exact (ih _ _).trans (Below.heap_setCell w ⟨g, o, none⟩ v b hb)
theorem putW_below {B : Nat} {a : World} {g : Nat} (hB : B ≤ g) (vs : List Value) : ∀ (w : World) (o : Nat), Below B a w → Below B a (putW w g o vs) := by
  induction vs with
  | nil => intro w o h; exact h
  | cons v vs ih => intro w o h; exact ih _ _ (h.setCell (p := ⟨g, o, none⟩) hB v)
theorem putW_size {g : Nat} (vs : List Value) : ∀ (w : World) (o : Nat), (putW w g o vs).heap.size = w.heap.size := by
  induction vs with
  | nil => intro w o; rfl
  | cons v vs ih => intro w o; exact (ih _ _).trans (by simp)
theorem OwnA.put {base : Nat} {w : World} {g : Nat} {L : List Ar} {k : Nat} (x : Ar) (h : OwnA base w (some ⟨g, 0, none⟩) L) (hk : k < L.length) : OwnA base (putW w g (k * 11) (AC x)) (some ⟨g, 0, none⟩) (L.set k x) := by
  rcases h with rfl | ⟨g', cs, hg', hge, hg, hc⟩
  · simp at hk
  · simp at hg'
    subst hg'
    refine .inr ⟨g, _, rfl, hge, putW_heap _ _ _ _ hg, fun i a hi j hj => ?_⟩
    rw [putC_get]
    have hkk : cs[k * 11 + j]? = (AC L[k])[j]? := hc k L[k] (List.getElem?_eq_getElem hk) j hj
    have hlt : k * 11 + j < cs.size := by
      have : (AC L[k])[j]?.isSome = true := by rw [List.getElem?_eq_getElem (by simpa using hj)]; rfl
      rw [← hkk] at this
      rcases Nat.lt_or_ge (k * 11 + j) cs.size with h | h
      · exact h
      · rw [Array.getElem?_eq_none h] at this; cases this
    by_cases hik : i = k
    · subst hik
      rw [List.getElem?_set_self hk] at hi
      cases hi
      rw [if_pos ⟨by omega, by simp; omega, hlt⟩, show i * 11 + j - i * 11 = j by omega]
    · rw [List.getElem?_set_ne (fun e => hik e.symm)] at hi
      rw [if_neg (by simp; omega)]
      exact hc i a hi j hj
theorem OwnA.num {base : Nat} {w : World} {g : Nat} {L : List Ar} {k : Nat} {x : Ar} (v : Int) (h : OwnA base w (some ⟨g, 0, none⟩) L) (hk : L[k]? = some x) : OwnA base (w.setCell ⟨g, k * 11 + 10, none⟩ (.int .i64 v)) (some ⟨g, 0, none⟩) (L.set k ⟨x.k, x.rc, x.rn, x.m, v⟩) := by
  obtain ⟨hkl, hx⟩ := List.getElem?_eq_some_iff.1 hk
  rcases h with rfl | ⟨g', cs, hg', hge, hg, hc⟩
  · simp at hkl
  · simp at hg'
    subst hg'
    refine .inr ⟨g, _, rfl, hge, heap_setCell_same _ _ _ _ _ _ hg, fun i a hi j hj => ?_⟩
    have hsz : k * 11 + 10 < cs.size := by
      have h10 := hc k x hk 10 (by decide)
      rcases Nat.lt_or_ge (k * 11 + 10) cs.size with h | h
      · exact h
      · rw [Array.getElem?_eq_none h] at h10; cases h10
    rw [Array.getElem?_setIfInBounds]
    by_cases hik : i = k
    · subst hik
      rw [List.getElem?_set_self hkl] at hi
      cases hi
      by_cases h10 : j = 10
      · subst h10; rw [if_pos rfl, if_pos hsz]; rfl
      · rw [if_neg (by omega), hc i x hk j hj]
        rcases show j = 0 ∨ j = 1 ∨ j = 2 ∨ j = 3 ∨ j = 4 ∨ j = 5 ∨ j = 6 ∨ j = 7 ∨ j = 8 ∨ j = 9 by omega with rfl | rfl | rfl | rfl | rfl | rfl | rfl | rfl | rfl | rfl <;> rfl
    · rw [List.getElem?_set_ne (fun e => hik e.symm)] at hi
      rw [if_neg (by omega)]
      exact hc i a hi j hj
theorem Own.other {w wx : World} {l : List Blk} (h : Own w l wx) {g : Nat} (hg : w.heap.size ≤ g) (hne : ∀ x ∈ l, x.b ≠ g) (o : Nat) (v : Value) : Own w l (wx.setCell ⟨g, o, none⟩ v) :=
  ⟨h.1.setCell (p := ⟨g, o, none⟩) hg v, fun x hx => ⟨(h.2.1 x hx).1, (Below.heap_setCell wx ⟨g, o, none⟩ v x.b (hne x hx)).trans (h.2.1 x hx).2⟩, h.2.2⟩
theorem Own.put {w wx : World} {l : List Blk} (h : Own w l wx) {g : Nat} (hg : w.heap.size ≤ g) (hne : ∀ x ∈ l, x.b ≠ g) (o : Nat) (vs : List Value) : Own w l (putW wx g o vs) :=
  ⟨putW_below hg vs wx o h.1, fun x hx => ⟨(h.2.1 x hx).1, (putW_other (hne x hx) vs wx o).trans (h.2.1 x hx).2⟩, h.2.2⟩
theorem Ptrs.put {base : Nat} {w : World} {P A : Option Addr} {n : Nat} (h : Ptrs base w P A n) (g o : Nat) (vs : List Value) (hne : ∀ pb, P = some ⟨pb, 0, none⟩ → pb ≠ g) : Ptrs base (putW w g o vs) P A n := by
  obtain ⟨pb, b, off, rfl, hA, hge, hlt, hc⟩ := h
  refine ⟨pb, b, off, rfl, hA, hge, by rw [putW_size]; exact hlt, fun i hi => ?_⟩
  rw [World.cell?_of_block (w := w) (putW_other (hne pb rfl) vs w o)]
  exact hc i hi
theorem Ptrs.mono {base base' : Nat} {w : World} {P A : Option Addr} {n : Nat} (h : Ptrs base w P A n) (hb : base' ≤ base) : Ptrs base' w P A n := by
  obtain ⟨pb, b, off, rfl, hA, hge, hlt, hc⟩ := h
  exact ⟨pb, b, off, rfl, hA, by omega, hlt, hc⟩
theorem Ptrs.ne {base : Nat} {w : World} {P A : Option Addr} {n : Nat} (h : Ptrs base w P A n) {g : Nat} (hg : g < base) : ∀ pb, P = some ⟨pb, 0, none⟩ → pb ≠ g := by
  obtain ⟨pb, b, off, rfl, hA, hge, hlt, hc⟩ := h
  intro pb' e
  simp at e
  omega
theorem OwnA.at {base : Nat} {w : World} {g : Nat} {L : List Ar} (h : OwnA base w (some ⟨g, 0, none⟩) L) {k : Nat} {a : Ar} (hk : L[k]? = some a) :
    (w.cell? ⟨g, k * 11, none⟩ = some (.int .i64 a.k) ∧ w.cell? ⟨g, k * 11 + 1, none⟩ = some (.int .i64 a.rc) ∧ w.cell? ⟨g, k * 11 + 2, none⟩ = some (.int .i64 a.rn) ∧ w.cell? ⟨g, k * 11 + 3, none⟩ = some (.int .i64 a.m.bc) ∧ w.cell? ⟨g, k * 11 + 4, none⟩ = some (.int .i64 a.m.bn) ∧ w.cell? ⟨g, k * 11 + 5, none⟩ = some (.int .i64 a.m.ic) ∧ w.cell? ⟨g, k * 11 + 6, none⟩ = some (.int .i64 a.m.ix) ∧ w.cell? ⟨g, k * 11 + 7, none⟩ = some (.int .i64 a.m.s) ∧ w.cell? ⟨g, k * 11 + 8, none⟩ = some (.int .i64 a.m.d) ∧ w.cell? ⟨g, k * 11 + 9, none⟩ = some (.int .i64 a.m.z) ∧ w.cell? ⟨g, k * 11 + 10, none⟩ = some (.int .i64 a.n)) ∧ (∀ o, w.frozen? ⟨g, o, none⟩ = false) ∧ g < w.heap.size := by
  have hA := h.args
  rcases hA with h0 | ⟨b, off, hb, hlt, hc⟩
  · rw [h0] at hk; simp at hk
  · obtain ⟨rfl, rfl⟩ : g = b ∧ 0 = off := by simp at hb; exact hb
    have := args_cells hc hk
    simp only [Nat.zero_add] at this
    refine ⟨this, ?_, hlt⟩
    rcases h with h0 | ⟨g', cs, hg', _, hg, _⟩
    · rw [h0] at hk; simp at hk
    · simp at hg'
      subst hg'
      exact fun o => frozen_of_row _ _ _ _ _ hg
/-- Pointers to a row of operands. -/
theorem To.of {base : Nat} {w : World} {P A : Option Addr} {l : List Ar} (hP : Ptrs base w P A l.length) (hA : Args w w.heap.size A l) : To w w.heap.size P l := by
  obtain ⟨pb, b, off, rfl, hA2, _, hlt, hc⟩ := hP
  rcases hA with rfl | ⟨b', off', rfl, hb', hc'⟩
  · left; rfl
  · refine .inr ⟨pb, 0, rfl, hlt, fun i a hi => ?_⟩
    obtain ⟨hil, _⟩ := List.getElem?_eq_some_iff.1 hi
    obtain ⟨rfl, rfl⟩ : b = b' ∧ off = off' := by
      rcases hA2 with h | h
      · omega
      · simp at h; exact ⟨h.1.symm, h.2.symm⟩
    exact ⟨b, off + i * 11, hb', by rw [Nat.zero_add]; exact hc i hil, fun j hj => hc' i a hi j hj⟩
theorem one_cells {w : World} {b off : Nat} {l : List Ar} (hc : ∀ i a, l[i]? = some a → ∀ j, j < 11 → w.cell? ⟨b, off + i * 11 + j, none⟩ = (AC a)[j]?) : ∀ j u, (cellsA l)[j]? = some u → w.cell? ((⟨b, off, none⟩ : Addr).add j) = some u := by
  intro j u hu
  have hadd : (⟨b, off, none⟩ : Addr).add j = ⟨b, off + j, none⟩ := by unfold Addr.add; split <;> simp_all
  rw [hadd]
  obtain ⟨hj, _⟩ := List.getElem?_eq_some_iff.1 hu
  rw [cellsA_length] at hj
  have h1 : j / 11 < l.length := by omega
  have h2 : j = j / 11 * 11 + j % 11 := by omega
  have h3 := cellsA_get (List.getElem?_eq_getElem h1) (Nat.mod_lt j (show 11 > 0 by decide))
  have h4 := hc (j / 11) _ (List.getElem?_eq_getElem h1) (j % 11) (Nat.mod_lt j (show 11 > 0 by decide))
  rw [← h2] at h3
  rw [show off + j / 11 * 11 + j % 11 = off + j by omega, ← h3, hu] at h4
  exact h4
theorem cells_oneA (l : List Ar) : ∀ u ∈ cellsA l, u.oneCell' = true := by
  intro u hu
  obtain ⟨a, _, h⟩ := List.mem_flatMap.1 hu
  simp only [AC, List.mem_cons, List.not_mem_nil, or_false] at h
  rcases h with rfl | rfl | rfl | rfl | rfl | rfl | rfl | rfl | rfl | rfl | rfl <;> rfl
set_option maxHeartbeats 1000000 in
set_option maxRecDepth 100000 in
theorem clone_any {A : Option Addr} {c : Nat} {l : List Ar} (hl : l.length ≤ 9) (w : World) (hA : Args w w.heap.size A l) :
    Calls Try.prog 25 #[.slice A l.length c] w fun e w' => ∃ G cp, e = .returned (.slice G l.length cp) ∧ Below w.heap.size w w' ∧ OwnA w.heap.size w' G l := by
  obtain ⟨i0, hi, hz0, hz1, hz2⟩ := info_parts infoArg
  have I0 := hid hz0; have I1 := hid hz1; have I2 := hid hz2; have I3 := hid hi
  clear hi hz0 hz1 hz2
  have hnil := fun (w : World) (a : Option Addr) (n c : Nat) => Lib.run_eql_slice_nil (P := Try.prog) w 22 42 a n c 0 0 Try.underlying22
  rcases A with _ | A
  · have h0 : l = [] := by
      rcases hA with h | ⟨b, off, h, _⟩
      · exact h
      · cases h
    subst h0
    go_enter Try.func25, Try.ntmps25
    go_wp2
    go_ret
    exact ⟨none, 0, rfl, Below.refl _ _, .inl rfl⟩
  · have HC := hid (show ∀ j u, (cellsA l)[j]? = some u → (w.alloc (.cells #[] 42)).cell? (A.add j) = some u by
      rcases hA with rfl | ⟨b, off, h, hb, hc⟩
      · intro j u hu; simp [cellsA] at hu
      · cases h
        intro j u hu
        have h1 := one_cells hc j u hu
        exact (((Below.refl w.heap.size w).alloc (Nat.le_refl _) _).cell (p := (⟨b, off, none⟩ : Addr).add j) (by unfold Addr.add; split <;> simp_all)).trans h1)
    have HM := hid (World.ownsRow_made (e := 42) (size := 11) (base := w.heap.size) w #[] 0 (Nat.le_refl _) (by unfold maxLen; omega) (by simp))
    have HB := hid ((Below.refl w.heap.size w).alloc (Nat.le_refl _) (.cells #[] 42))
    have H1 := hid (cells_oneA l)
    have HL := hid (cellsA_length l)
    clear hA
    go_enter Try.func25, Try.ntmps25
    go_wp2_with (at_builtin; refine wpList_append_own _ rfl _ _ 22 rfl w.heap.size 42 i0 (.agg #[.int .i64 0, .int .i64 0, .int .i64 0, .int .i64 0, .int .i64 0, .int .i64 0, .int .i64 0, .int .i64 0, .int .i64 0, .int .i64 0, .int .i64 0]) 11 88 Try.underlying22 I3.out I0.out I1.out I2.out rfl (by decide) (.slice (some ⟨w.heap.size, 0, none⟩) 0 0) 0 [] rfl HM.out A l.length c (cellsA l) rfl HL.out HC.out H1.out ?_ ?_ ?_ ?_; (unfold maxLen; omega); omega; simp)
    intro v' w1 hown hgrow _
    have hb1 := HB.out.grown hgrow (by simp) (fun k hk => by simp [Value.ownBlock] at hk; omega)
    obtain ⟨G, cp, rfl, hG⟩ := OwnA.row hown
    clear hown hgrow
    go_wp2_with fail
    go_ret
    exact ⟨G, cp, rfl, hb1, hG⟩
end Go.Proofs.Ytmlmdbholakioaa
