/-
  What the walk of InstTells leans on: blocks found again by search; lists of instructions behind what writes one row.
-/
import Derived.Test.YtmlmdbholakioaaInstAwake
import Derived.Deep.RegionHeld3
import Derived.Deep.DeepCutAuto
namespace Go.Proofs.Ytmlmdbholakioaa
open Go.RowKit

/-! ### one block -/
def BlkAt (w : World) (b : Nat) (cs : Array Value) (t : TypeId) : Prop := w.heap[b]? = some (.cells cs t (0, 0))
theorem blk_new {w : World} {b : Nat} {cs : Array Value} {t : TypeId} (h : b = w.heap.size) : BlkAt (w.alloc (.cells cs t)) b cs t := by subst h; exact heap_alloc_new w _
theorem BlkAt.lt {w : World} {b : Nat} {cs : Array Value} {t : TypeId} (h : BlkAt w b cs t) : b < w.heap.size := (Array.getElem?_eq_some_iff.1 h).1
theorem blk_call {w w' : World} {b : Nat} {cs : Array Value} {t : TypeId} (h : BlkAt w b cs t) (hb : Below w.heap.size w w') : BlkAt w' b cs t := (hb.block b h.lt).trans h
theorem blk_alloc {w : World} {b : Nat} {cs : Array Value} {t : TypeId} (h : BlkAt w b cs t) (o : Obj) : BlkAt (w.alloc o) b cs t := blk_call h ((Below.refl _ _).alloc (Nat.le_refl _) o)
theorem blk_drew {w : World} {b : Nat} {cs : Array Value} {t : TypeId} (h : BlkAt w b cs t) : BlkAt w.drew b cs t := h
theorem blk_two {w : World} {b : Nat} {x y u v : Value} {t : TypeId} (h : BlkAt w b #[x, y] t) : BlkAt ((w.setCell ⟨b, 0, none⟩ u).setCell ⟨b, 1, none⟩ v) b #[u, v] t :=
  heap_setCell_same _ _ _ _ _ _ (heap_setCell_same _ _ _ _ _ _ h)
theorem blk_other {w : World} {b b' i : Nat} {cs : Array Value} {t : TypeId} {v : Value} (h : BlkAt w b cs t) (hne : b ≠ b') : BlkAt (w.setCell ⟨b', i, none⟩ v) b cs t := (Below.heap_setCell w ⟨b', i, none⟩ v b hne).trans h
theorem bel_set {w w1 : World} (h : Below w.heap.size w w1) (p : Addr) (v : Value) (hp : w.heap.size ≤ p.block) : Below w.heap.size w (w1.setCell p v) := h.setCell hp v
/-! ### one row -/
theorem oa_call {base : Nat} {w w' : World} {A : Option Addr} {l : List Ar} (h : OwnA base w A l) (hb : Below w.heap.size w w') : OwnA base w' A l := h.below hb
theorem oa_alloc {base : Nat} {w : World} {A : Option Addr} {l : List Ar} (h : OwnA base w A l) (o : Obj) : OwnA base (w.alloc o) A l := h.below ((Below.refl _ _).alloc (Nat.le_refl _) o)
theorem oa_drew {base : Nat} {w : World} {A : Option Addr} {l : List Ar} (h : OwnA base w A l) : OwnA base w.drew A l := h
theorem oa_set {base : Nat} {w : World} {A : Option Addr} {l : List Ar} {b i : Nat} {v : Value} (h : OwnA base w A l) (hne : ∀ g, A = some ⟨g, 0, none⟩ → l ≠ [] → g ≠ b) : OwnA base (w.setCell ⟨b, i, none⟩ v) A l := by
  by_cases hl : l = []
  · exact .inl hl
  rcases h with h | ⟨g, cs, rfl, hge, hg, hc⟩
  · exact absurd h hl
  · exact .inr ⟨g, cs, rfl, hge, (Below.heap_setCell w ⟨b, i, none⟩ v g (hne g rfl hl)).trans hg, hc⟩
/-! ### an instruction written over -/
theorem over_nil {op : Int} (A : Option Addr) (c : Nat) (w : World) :
    Calls Try.prog 17 #[.agg #[.int .i64 op, .slice A 0 c]] w fun e w' => e = .returned (.tuple #[]) ∧ w.grownBy w' none := by
  have HW := hid (World.grownBy_alloc w (.cells #[.int .i64 op, .slice A 0 c] 24) none)
  go_enter Try.func17, Try.ntmps17
  go_wp2
  go_loopw [2] (fun i wr => i = .int .i64 0 ∧ wr = w.alloc (.cells #[.int .i64 op, .slice A 0 c] 24)) (fun _ _ => 0)
  case atStart => exact ⟨rfl, rfl⟩
  case round =>
    obtain ⟨rfl, rfl⟩ := hrel
    go_wp2
    go_end0
    exact ⟨rfl, HW.out⟩
theorem over_all {op : Int} {A : Option Addr} {base c : Nat} {l : List Ar} (hl : l.length ≤ 9) (w : World) (hA : OwnA base w A l) :
    Calls Try.prog 17 #[.agg #[.int .i64 op, .slice A l.length c]] w fun e w' => ∃ row, e = .returned (.tuple #[]) ∧ w.grownBy w' row ∧ ∀ k, row = some k → A = some ⟨k, 0, none⟩ ∧ l ≠ [] := by
  by_cases h0 : l = []
  · subst h0
    refine (over_nil A c w).mono ?_
    rintro e w1 ⟨rfl, h⟩
    exact ⟨none, rfl, h, fun k hk => by cases hk⟩
  · refine (over_any hl w hA).mono ?_
    rintro e w1 ⟨rfl, h⟩
    refine ⟨_, rfl, h, fun k hk => ?_⟩
    rcases hA with h1 | ⟨g, _, rfl, _⟩
    · exact absurd h1 h0
    · simp at hk
      subst hk
      exact ⟨rfl, h0⟩
/-! ### lists of instructions behind what writes one row -/
theorem oa_grown {base : Nat} {w w' : World} {A : Option Addr} {l : List Ar} {row : Option Nat} (h : OwnA base w A l) (hg : w.grownBy w' row) (hne : ∀ g, A = some ⟨g, 0, none⟩ → l ≠ [] → some g ≠ row) : OwnA base w' A l := by
  by_cases hl : l = []
  · exact .inl hl
  · exact h.grown hg (fun g hA => hne g hA hl)
theorem SpOne.grown {base : Nat} {w w' : World} {v : Value} {op : Int} {L : List Ar} {row : Option Nat} (h : SpOne base w v op L) (hg : w.grownBy w' row) (hr : ∀ k, row = some k → k < base) : SpOne base w' v op L := by
  obtain ⟨sb, cap, A, c, h1, h2, h3, h4, h5, h6⟩ := h
  have hne : ∀ g, base ≤ g → some g ≠ row := fun g hge e => by have := hr g e.symm; omega
  refine ⟨sb, cap, A, c, h1, h2, Nat.lt_of_lt_of_le h3 hg.size, hg.cell h4 (hne sb h2), hg.cell h5 (hne sb h2), oa_grown h6 hg (fun g hA hl => hne g (OwnA.lt (hA ▸ h6) hl).1)⟩
theorem SpTwo.grown {base : Nat} {w w' : World} {v : Value} {op : Int} {L M : List Ar} {row : Option Nat} (h : SpTwo base w v op L M) (hg : w.grownBy w' row) (hr : ∀ k, row = some k → k < base) : SpTwo base w' v op L M := by
  obtain ⟨sb, cap, A, c, B, d, h1, h2, h3, h4, h5, h6, h7, h8, h9, h10⟩ := h
  have hne : ∀ g, base ≤ g → some g ≠ row := fun g hge e => by have := hr g e.symm; omega
  exact ⟨sb, cap, A, c, B, d, h1, h2, Nat.lt_of_lt_of_le h3 hg.size, hg.cell h4 (hne sb h2), hg.cell h5 (hne sb h2), hg.cell h6 (hne sb h2), hg.cell h7 (hne sb h2), oa_grown h8 hg (fun g hA hl => hne g (OwnA.lt (hA ▸ h8) hl).1), oa_grown h9 hg (fun g hA hl => hne g (OwnA.lt (hA ▸ h9) hl).1), h10⟩
/-! ### Spellings, case by case -/
theorem itsp_one {op : Int} {A : Option Addr} {c n : Nat} {l L : List Ar} (hn : l.length = n) (hl : n ≤ 9) (hf : Fine l) (h : instF op l = 0) (hL : icanF op l = L) (hs : spF op L = false) (w : World) (hA : Args w w.heap.size A l) :
    Calls Try.prog 18 #[.agg #[.int .i64 op, .slice A n c]] w fun e w' => ∃ v, e = .returned v ∧ Below w.heap.size w w' ∧ SpOne w.heap.size w' v op L := by
  subst hn; exact (isp_start hl hf h hL w hA).mono fun _ _ ⟨v, h1, h2, h3⟩ => ⟨v, h1, h2, h3.2 hs⟩
theorem itsp_two {op : Int} {A : Option Addr} {c n : Nat} {l L : List Ar} (hn : l.length = n) (hl : n ≤ 9) (hf : Fine l) (h : instF op l = 0) (hL : icanF op l = L) (hs : spF op L = true) (w : World) (hA : Args w w.heap.size A l) :
    Calls Try.prog 18 #[.agg #[.int .i64 op, .slice A n c]] w fun e w' => ∃ v, e = .returned v ∧ Below w.heap.size w w' ∧ SpTwo w.heap.size w' v op L (swF L) := by
  subst hn; exact (isp_start hl hf h hL w hA).mono fun _ _ ⟨v, h1, h2, h3⟩ => ⟨v, h1, h2, h3.1 hs⟩
theorem rtsp_one {op : Int} {A : Option Addr} {c n : Nat} {l L : List Ar} (hn : l.length = n) (hl : n ≤ 9) (hf : Fine l) (h : instF op l = 0) (hL : icanF op l = L) (hs : spF op L = false) (w : World) (hA : Args w w.heap.size A l) :
    Calls Try.prog 19 #[.agg #[.int .i64 op, .slice A n c]] w fun e w' => ∃ v, e = .returned v ∧ Below w.heap.size w w' ∧ SpOne w.heap.size w' v op L := by
  subst hn; exact (rsp_start hl hf h hL w hA).mono fun _ _ ⟨v, h1, h2, h3⟩ => ⟨v, h1, h2, h3.2 hs⟩
theorem rtsp_two {op : Int} {A : Option Addr} {c n : Nat} {l L : List Ar} (hn : l.length = n) (hl : n ≤ 9) (hf : Fine l) (h : instF op l = 0) (hL : icanF op l = L) (hs : spF op L = true) (w : World) (hA : Args w w.heap.size A l) :
    Calls Try.prog 19 #[.agg #[.int .i64 op, .slice A n c]] w fun e w' => ∃ v, e = .returned v ∧ Below w.heap.size w w' ∧ SpTwo w.heap.size w' v op L (swF L) := by
  subst hn; exact (rsp_start hl hf h hL w hA).mono fun _ _ ⟨v, h1, h2, h3⟩ => ⟨v, h1, h2, h3.1 hs⟩
theorem copy_at {op : Int} {A : Option Addr} {c n : Nat} {l : List Ar} (hn : l.length = n) (hl : n ≤ 9) (w : World) (hA : Args w w.heap.size A l) :
    Calls Try.prog 7 #[.agg #[.int .i64 op, .slice A n c]] w fun e w' => ∃ G cp, e = .returned (.agg #[.int .i64 op, .slice G n cp]) ∧ Below w.heap.size w w' ∧ OwnA w.heap.size w' G l := by
  subst hn; exact copy_any hl w hA
theorem eqI_refl (op : Int) (l : List Ar) : ((op == op) && eqL l l) = true := by
  rw [beq_self_eq_true, Bool.true_and]; exact eqL_iff.2 rfl
theorem own_two {w W wx : World} {l : List Blk} {i5 i6 : Nat} {cs5 cs6 : Array Value} {t5 t6 : TypeId} (h : Own w l W) (hb : Below W.heap.size W wx) (h5 : BlkAt wx i5 cs5 t5) (h6 : BlkAt wx i6 cs6 t6) (g5 : W.heap.size ≤ i5) (g6 : W.heap.size ≤ i6) (hne : i5 ≠ i6) : Own w (⟨i6, cs6, t6⟩ :: ⟨i5, cs5, t5⟩ :: l) wx := by
  have h1 := h.call hb
  have hz := h.1.size
  refine ⟨h1.1, fun x hx => ?_, ?_⟩
  · rcases List.mem_cons.1 hx with rfl | hx
    · exact ⟨Nat.le_trans hz g6, h6⟩
    · rcases List.mem_cons.1 hx with rfl | hx
      · exact ⟨Nat.le_trans hz g5, h5⟩
      · exact h1.2.1 x hx
  · refine List.pairwise_cons.2 ⟨fun x hx => ?_, List.pairwise_cons.2 ⟨fun x hx => ?_, h1.2.2⟩⟩
    · rcases List.mem_cons.1 hx with rfl | hx
      · exact hne.symm
      · exact Nat.ne_of_gt (Nat.lt_of_lt_of_le (h.lt hx) g6)
    · exact Nat.ne_of_gt (Nat.lt_of_lt_of_le (h.lt hx) g5)
theorem rcheck_at {op e' : Int} {A : Option Addr} {n c : Nat} {l : List Ar} (he : instF op l = e') (hn : l.length = n) (h9 : n ≤ 9) (hf : Fine l) (w : World) (hA : Args w w.heap.size A l) :
    Calls Try.prog 13 #[.agg #[.int .i64 op, .slice A n c]] w fun e w' => e = .returned (.int .i64 e') ∧ Below w.heap.size w w' := by
  subst hn he; exact rinst_check h9 hf w hA
theorem rsame_at {op op' : Int} {A A' : Option Addr} {n n' c c' : Nat} {l l' : List Ar} {v : Bool} (hv : sameI op l op' l' = v) (hn : l.length = n) (hn' : l'.length = n') (hl : n ≤ 9) (hl' : n' ≤ 9) (hf : Fine l) (hf' : Fine l') (w : World) (hA : Args w w.heap.size A l) (hA' : Args w w.heap.size A' l') :
    Calls Try.prog 16 #[.agg #[.int .i64 op, .slice A n c], .agg #[.int .i64 op', .slice A' n' c']] w fun e w' => e = .returned (.bool v) ∧ Below w.heap.size w w' := by
  subst hn hn' hv; exact risame_any hl hl' hf hf' w hA hA'
/-! ### a list's instruction at a place -/
def At (base : Nat) (w : World) (sb i j : Nat) (op : Int) (A : Option Addr) (c : Nat) (L : List Ar) : Prop :=
  base ≤ sb ∧ sb < w.heap.size ∧ w.cell? ⟨sb, i, none⟩ = some (.int .i64 op) ∧ w.cell? ⟨sb, j, none⟩ = some (.slice A L.length c) ∧ OwnA base w A L
theorem At.call {base : Nat} {w w' : World} {sb i j : Nat} {op : Int} {A : Option Addr} {c : Nat} {L : List Ar} (h : At base w sb i j op A c L) (hb : Below w.heap.size w w') : At base w' sb i j op A c L :=
  ⟨h.1, Nat.lt_of_lt_of_le h.2.1 hb.size, (hb.cell (p := ⟨sb, i, none⟩) h.2.1).trans h.2.2.1, (hb.cell (p := ⟨sb, j, none⟩) h.2.1).trans h.2.2.2.1, h.2.2.2.2.below hb⟩
theorem At.drew {base : Nat} {w : World} {sb i j : Nat} {op : Int} {A : Option Addr} {c : Nat} {L : List Ar} (h : At base w sb i j op A c L) : At base w.drew sb i j op A c L := h
theorem At.grown {base : Nat} {w w' : World} {sb i j : Nat} {op : Int} {A : Option Addr} {c : Nat} {L : List Ar} {row : Option Nat} (h : At base w sb i j op A c L) (hg : w.grownBy w' row) (hs : some sb ≠ row) (hne : ∀ g, A = some ⟨g, 0, none⟩ → L ≠ [] → some g ≠ row) : At base w' sb i j op A c L :=
  ⟨h.1, Nat.lt_of_lt_of_le h.2.1 hg.size, hg.cell h.2.2.1 hs, hg.cell h.2.2.2.1 hs, oa_grown h.2.2.2.2 hg hne⟩
/-- Apart: what is written over first lies beside the rest. -/
def Apart (sb : Nat) (A B : Option Addr) : Prop := (∀ g, A = some ⟨g, 0, none⟩ → g ≠ sb) ∧ ∀ g, A = some ⟨g, 0, none⟩ → ∀ h, B = some ⟨h, 0, none⟩ → g ≠ h
theorem itat_one {op : Int} {A : Option Addr} {c n : Nat} {l L : List Ar} (hn : l.length = n) (hl : n ≤ 9) (hf : Fine l) (h : instF op l = 0) (hL : icanF op l = L) (hs : spF op L = false) (w : World) (hA : Args w w.heap.size A l) :
    Calls Try.prog 18 #[.agg #[.int .i64 op, .slice A n c]] w fun e w' => ∃ sb cap P p, e = .returned (.slice (some ⟨sb, 0, none⟩) 1 cap) ∧ Below w.heap.size w w' ∧ At w.heap.size w' sb 0 1 op P p L :=
  (itsp_one hn hl hf h hL hs w hA).mono fun _ _ ⟨_, h1, h2, sb, cap, P, p, h3, h4, h5, h6, h7, h8⟩ => ⟨sb, cap, P, p, h3 ▸ h1, h2, h4, h5, h6, h7, h8⟩
theorem rtat_one {op : Int} {A : Option Addr} {c n : Nat} {l L : List Ar} (hn : l.length = n) (hl : n ≤ 9) (hf : Fine l) (h : instF op l = 0) (hL : icanF op l = L) (hs : spF op L = false) (w : World) (hA : Args w w.heap.size A l) :
    Calls Try.prog 19 #[.agg #[.int .i64 op, .slice A n c]] w fun e w' => ∃ sb cap P p, e = .returned (.slice (some ⟨sb, 0, none⟩) 1 cap) ∧ Below w.heap.size w w' ∧ At w.heap.size w' sb 0 1 op P p L :=
  (rtsp_one hn hl hf h hL hs w hA).mono fun _ _ ⟨_, h1, h2, sb, cap, P, p, h3, h4, h5, h6, h7, h8⟩ => ⟨sb, cap, P, p, h3 ▸ h1, h2, h4, h5, h6, h7, h8⟩
theorem itat_two {op : Int} {A : Option Addr} {c n : Nat} {l L : List Ar} (hn : l.length = n) (hl : n ≤ 9) (hf : Fine l) (h : instF op l = 0) (hL : icanF op l = L) (hs : spF op L = true) (w : World) (hA : Args w w.heap.size A l) :
    Calls Try.prog 18 #[.agg #[.int .i64 op, .slice A n c]] w fun e w' => ∃ sb cap P p Q q, e = .returned (.slice (some ⟨sb, 0, none⟩) 2 cap) ∧ Below w.heap.size w w' ∧ At w.heap.size w' sb 0 1 op P p L ∧ At w.heap.size w' sb 2 3 op Q q (swF L) ∧ Hid (Apart sb P Q) :=
  (itsp_two hn hl hf h hL hs w hA).mono fun _ _ ⟨_, h1, h2, sb, cap, P, p, Q, q, h3, h4, h5, h6, h7, h8, h9, h10, h11, h12, h13⟩ => ⟨sb, cap, P, p, Q, q, h3 ▸ h1, h2, ⟨h4, h5, h6, h7, h10⟩, ⟨h4, h5, h8, h9, h11⟩, hid ⟨h12, h13⟩⟩
theorem rtat_two {op : Int} {A : Option Addr} {c n : Nat} {l L : List Ar} (hn : l.length = n) (hl : n ≤ 9) (hf : Fine l) (h : instF op l = 0) (hL : icanF op l = L) (hs : spF op L = true) (w : World) (hA : Args w w.heap.size A l) :
    Calls Try.prog 19 #[.agg #[.int .i64 op, .slice A n c]] w fun e w' => ∃ sb cap P p Q q, e = .returned (.slice (some ⟨sb, 0, none⟩) 2 cap) ∧ Below w.heap.size w w' ∧ At w.heap.size w' sb 0 1 op P p L ∧ At w.heap.size w' sb 2 3 op Q q (swF L) :=
  (rtsp_two hn hl hf h hL hs w hA).mono fun _ _ ⟨_, h1, h2, sb, cap, P, p, Q, q, h3, h4, h5, h6, h7, h8, h9, h10, h11, _, _⟩ => ⟨sb, cap, P, p, Q, q, h3 ▸ h1, h2, ⟨h4, h5, h6, h7, h10⟩, ⟨h4, h5, h8, h9, h11⟩⟩
theorem oa_lt {base : Nat} {w : World} {A : Option Addr} {l : List Ar} (h : OwnA base w A l) : ∀ g, A = some ⟨g, 0, none⟩ → l ≠ [] → base ≤ g ∧ g < w.heap.size := fun _ hA hl => OwnA.lt (hA ▸ h) hl
/-- The call's own four blocks, behind what writes a row that was made later. -/
theorem own_past {w wx wy : World} {l : List Blk} {row : Option Nat} {b : Nat} (h : Own w l wx) (hg : wx.grownBy wy row) (hb : ∀ x ∈ l, x.b < b) (hw : w.heap.size ≤ b) (hr : ∀ k, row = some k → b ≤ k) : Own w l wy :=
  h.grown hg fun k hk => ⟨Nat.le_trans hw (hr k hk), fun x hx => Nat.ne_of_lt (Nat.lt_of_lt_of_le (hb x hx) (hr k hk))⟩
theorem oa_past {base b : Nat} {w w' : World} {A : Option Addr} {l : List Ar} {row : Option Nat} (h : OwnA base w A l) (hg : w.grownBy w' row) (hb : ∀ g, A = some ⟨g, 0, none⟩ → l ≠ [] → g < b) (hr : ∀ k, row = some k → b ≤ k) : OwnA base w' A l :=
  oa_grown h hg fun g hA hl e => by have := hb g hA hl; have := hr g e.symm; omega
theorem at_past {base : Nat} {w w' : World} {sb i j : Nat} {op : Int} {A : Option Addr} {c : Nat} {L : List Ar} {row : Option Nat} (h : At base w sb i j op A c L) (hg : w.grownBy w' row) (hr : ∀ k, row = some k → k < base) : At base w' sb i j op A c L :=
  h.grown hg (fun e => by have := hr sb e.symm; have := h.1; omega) (fun g hA hl e => by have := hr g e.symm; have := (OwnA.lt (hA ▸ h.2.2.2.2) hl).1; omega)
theorem row_in {A : Option Addr} {L : List Ar} {row : Option Nat} {a b : Nat} (hrow : ∀ k, row = some k → A = some ⟨k, 0, none⟩ ∧ L ≠ []) (h : ∀ g, A = some ⟨g, 0, none⟩ → L ≠ [] → a ≤ g ∧ g < b) : ∀ k, row = some k → a ≤ k ∧ k < b := fun k hk => h k (hrow k hk).1 (hrow k hk).2
end Go.Proofs.Ytmlmdbholakioaa
