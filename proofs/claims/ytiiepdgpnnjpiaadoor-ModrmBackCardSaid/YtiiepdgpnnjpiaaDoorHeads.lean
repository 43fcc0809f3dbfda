/-
  The heads of a place's ways: the program's list of them.
-/
import Derived.Test.YtiiepdgpnnjpiaaDoorSib
import Derived.Outline
namespace Go.Proofs.YtiiepdgpnnjpiaaDoor
open Go.RowKit
set_option maxRecDepth 100000

/-- A head, and where its SIB stands. -/
structure Hz where
  h : Hd
  g : Nat
def hcells (Z : List Hz) : List Value := Z.flatMap fun z => (HV z.h z.g).toList
/-- A row of the call's own of heads. -/
def Heads (w : World) (base : Nat) (v : Value) (H : List Hd) : Prop :=
  ∃ Z : List Hz, Z.map Hz.h = H ∧ w.ownsRow base 82 6 v Z.length (hcells Z) ∧ ∀ z ∈ Z, z.h.sib = [] ∨ (base ≤ z.g ∧ ByB w z.g 5 z.h.sib)
theorem infoHead : (Tryd.prog.info? 82).map (fun i => (i.zero, i.size, i.bytes)) = some (some (.agg #[.int .i64 0, .slice none 0 0, .int .i64 0, .int .i64 0, .int .i64 0, .bool false]), 6, 64) := by kernel_rfl
theorem hcells_length (Z : List Hz) : (hcells Z).length = Z.length * 6 := by
  induction Z with
  | nil => rfl
  | cons z Z ih =>
    have : hcells (z :: Z) = (HV z.h z.g).toList ++ hcells Z := rfl
    rw [this, List.length_append, ih]
    simp; omega
theorem sibF_ne (ic ix s base : Int) : sibF ic ix s base ≠ [] := by unfold sibF; split <;> simp
theorem HV_slice {h : Hd} (hs : h.sib ≠ []) (g : Nat) : HV h g = #[.int .i64 h.rm, .slice (some ⟨g, 0, none⟩) 1 1, .int .i64 h.x, .int .i64 h.b, .int .i64 h.base, .bool h.alone] := by simp [HV, hs]
/-- One head, in a block of its own. -/
theorem heads_one (w : World) (base b : Nat) (hb : base ≤ w.heap.size) (hbb : b = w.heap.size) (h : Hd) (g : Nat) (cs : Array Value) (hcs : cs = HV h g) (hs : h.sib = [] ∨ (base ≤ g ∧ ByB (w.alloc (.cells cs 82)) g 5 h.sib)) :
    Heads (w.alloc (.cells cs 82)) base (.slice (some ⟨b, 0, none⟩) 1 1) [h] := by
  subst hbb hcs
  refine ⟨[⟨h, g⟩], rfl, ?_, fun z hz => ?_⟩
  · have := World.ownsRow_lit (base := base) (e := 82) (size := 6) w (HV h g) 1 hb (by simp [maxLen]) rfl
    simpa [hcells] using this
  · simp at hz; subst hz; exact hs
set_option maxHeartbeats 400000 in
theorem heads_rip (bn ic ix s d z : Int) (w : World) :
    Calls Tryd.prog 48 #[.agg #[.int .i64 8, .int .i64 bn, .int .i64 ic, .int .i64 ix, .int .i64 s, .int .i64 d, .int .i64 z]] w fun e w' => ∃ v, e = .returned v ∧ Below w.heap.size w w' ∧ Heads w' w.heap.size v [⟨5, [], 0, 0, 0, true⟩] := by
  go_enter Tryd.func48, Tryd.ntmps48
  go_wp2
  go_ret
  refine ⟨_, rfl, by go_grown, ?_⟩
  exact heads_one (w.alloc (.cells #[.int .i64 8, .int .i64 bn, .int .i64 ic, .int .i64 ix, .int .i64 s, .int .i64 d, .int .i64 z] 25)) w.heap.size (w.heap.size + 1) (by simp) (by simp) ⟨5, [], 0, 0, 0, true⟩ 0 _ rfl (.inl rfl)
set_option maxHeartbeats 400000 in
theorem heads_bare (ic ix s d z : Int) (hi : IxOk ic ix s) (w : World) (ht : Tz w) :
    Calls Tryd.prog 48 #[.agg #[.int .i64 0, .int .i64 0, .int .i64 ic, .int .i64 ix, .int .i64 s, .int .i64 d, .int .i64 z]] w fun e w' => ∃ v, e = .returned v ∧ Below w.heap.size w w' ∧ Heads w' w.heap.size v [indexedH ic ix s] := by
  have HT := hid (ht.below ((Below.refl _ _).alloc (Nat.le_refl _) (.cells #[.int .i64 0, .int .i64 0, .int .i64 ic, .int .i64 ix, .int .i64 s, .int .i64 d, .int .i64 z] 25)))
  have HI := hid hi
  clear ht hi
  go_enter Tryd.func48, Tryd.ntmps48
  go_wp2_with (go_at_call 68; refine (mindexed_any ic ix s HI.out _ HT.out).mono ?_; rintro e w1 ⟨g, hg, rfl, hb, hk⟩; have HB := hid hb; have HK := hid hk; clear hb hk)
  go_ret
  have hB0 : Below w.heap.size w w1 := ((Below.refl w.heap.size w).alloc (Nat.le_refl _) _).trans (HB.out.mono (by simp))
  refine ⟨_, rfl, hB0.alloc hB0.size _, ?_⟩
  exact heads_one w1 w.heap.size w1.heap.size hB0.size rfl (indexedH ic ix s) g _ (HV_slice (h := indexedH ic ix s) (sibF_ne _ _ _ _) g).symm (.inr ⟨by simp at hg; omega, HK.out.below ((Below.refl _ _).alloc (Nat.le_refl _) _) HK.out.lt⟩)
set_option maxHeartbeats 400000 in
theorem heads_both (bn ix s d z : Int) (hs : s = 1 ∨ s = 2 ∨ s = 4 ∨ s = 8) (w : World) (ht : Tz w) :
    Calls Tryd.prog 48 #[.agg #[.int .i64 5, .int .i64 bn, .int .i64 5, .int .i64 ix, .int .i64 s, .int .i64 d, .int .i64 z]] w fun e w' => ∃ v, e = .returned v ∧ Below w.heap.size w w' ∧ Heads w' w.heap.size v [basedH 5 bn 5 ix s] := by
  have HT := hid (ht.below ((Below.refl _ _).alloc (Nat.le_refl _) (.cells #[.int .i64 5, .int .i64 bn, .int .i64 5, .int .i64 ix, .int .i64 s, .int .i64 d, .int .i64 z] 25)))
  have HI := hid hs
  clear ht hs
  go_enter Tryd.func48, Tryd.ntmps48
  go_wp2_with (go_at_call 69; refine (mbased_any 5 bn 5 ix s (.inr ⟨rfl, HI.out⟩) _ HT.out).mono ?_; rintro e w1 ⟨g, hg, rfl, hb, hk⟩; have HB := hid hb; have HK := hid hk; clear hb hk)
  go_ret
  have hB0 : Below w.heap.size w w1 := ((Below.refl w.heap.size w).alloc (Nat.le_refl _) _).trans (HB.out.mono (by simp))
  refine ⟨_, rfl, hB0.alloc hB0.size _, ?_⟩
  exact heads_one w1 w.heap.size w1.heap.size hB0.size rfl (basedH 5 bn 5 ix s) g _ (HV_slice (h := basedH 5 bn 5 ix s) (sibF_ne 5 ix s (lowF 5 bn)) g).symm (.inr ⟨by simp at hg; omega, HK.out.below ((Below.refl _ _).alloc (Nat.le_refl _) _) HK.out.lt⟩)
/-- Bytes in a block of their own stand behind an append onto a row of another type. -/
theorem ByB.grown {w w' : World} {g base n size : Nat} {t : TypeId} {v : Value} {xs : List Value} {zs : List Int} (h : ByB w g 5 zs) (hr : w.ownsRow base t size v n xs) (ht : t ≠ 5) (hg : w.grownBy w' v.ownBlock) : ByB w' g 5 zs := by
  refine (hg.block g h.lt ?_).trans h
  intro e
  rcases hr.2 with ⟨rfl, _⟩ | ⟨k, cap, cur, rfl, _, hk, _⟩
  · simp [Value.ownBlock] at e
  · simp [Value.ownBlock] at e
    subst e
    unfold ByB at h
    rw [hk] at h
    simp at h
    exact ht h.2
theorem Heads.nil (w : World) (base : Nat) : Heads w base (.slice none 0 0) [] := ⟨[], rfl, World.ownsRow_nil _ _ _ _, fun _ h => by cases h⟩
theorem Heads.mono {w : World} {base base' : Nat} {v : Value} {H : List Hd} (h : Heads w base v H) (hb : base' ≤ base) : Heads w base' v H := by
  obtain ⟨Z, h1, ⟨h2, h3⟩, h4⟩ := h
  refine ⟨Z, h1, ⟨h2, ?_⟩, fun z hz => (h4 z hz).imp id fun hk => ⟨Nat.le_trans hb hk.1, hk.2⟩⟩
  rcases h3 with h3 | ⟨g, cap, cur, e, hge, rest⟩
  · exact .inl h3
  · exact .inr ⟨g, cap, cur, e, by omega, rest⟩
theorem Heads.below {w w' : World} {base : Nat} {v : Value} {H : List Hd} (h : Heads w base v H) (hb : Below w.heap.size w w') : Heads w' base v H := by
  obtain ⟨Z, h1, h2, h3⟩ := h
  have hg : w.grownBy w' none := ⟨hb.os, hb.tape, hb.output, hb.size, fun k hk _ => hb.block k hk⟩
  refine ⟨Z, h1, h2.kept hg ?_, fun z hz => (h3 z hz).imp id fun hk => ⟨hk.1, hk.2.below hb hk.2.lt⟩⟩
  cases hv : v.ownBlock with
  | none => exact .inl rfl
  | some k => exact .inr (by simp)
theorem wpList_append_head {w : World} {ops : Array Oper} {rest : List Oper} {o : Oper} {a : Act} {Q : Exit → Act → World → Prop} (hgd : o.guard = none) (s x : Operand)
    (ho : o.op = .call { callee := .builtin .append, args := #[s, x], argTypes := #[79, 79] })
    (base : Nat) (v : Value) (H : List Hd) (hs : a.eval s = v) (hH : Heads w base v H) (hn : H.length ≤ 10) (b c : Nat) (h : Hd) (g : Nat) (cs : Array Value) (hcs : cs = HV h g) (hx : a.eval x = .slice (some ⟨b, 0, none⟩) 1 c) (hb : ∀ j, w.cell? ⟨b, j, none⟩ = cs[j]?)
    (hsib : h.sib = [] ∨ (base ≤ g ∧ ByB w g 5 h.sib)) (hbase : base ≤ w.heap.size)
    (K : ∀ v' w', Hid (Heads w' base v' (H ++ [h])) → Hid (Below base w w') → wpList Tryd.prog ops Q rest (a.put o.dst v') w') : wpList Tryd.prog ops Q (o :: rest) a w := by
  obtain ⟨Z, h1, h2, h3⟩ := hH
  subst hcs
  have hl : Z.length = H.length := by rw [← h1, List.length_map]
  obtain ⟨i0, hi, hz0, hz1, hz2⟩ := info_parts infoHead
  refine wpList_append_own _ hgd s x 79 ho base 82 i0 _ 6 64 Tryd.underlying79 hi hz0 hz1 hz2 rfl (by decide) v Z.length (hcells Z) hs h2 ⟨b, 0, none⟩ 1 c (HV h g).toList hx (by simp) ?_ ?_ (by simp [maxLen]; omega) (by omega) hbase ?_
  · intro j u hu
    have hadd : (⟨b, 0, none⟩ : Addr).add j = ⟨b, j, none⟩ := by unfold Addr.add; split <;> simp_all
    rw [hadd, hb j]
    simpa using hu
  · intro u hu
    simp at hu
    rcases hu with rfl | rfl | rfl | rfl | rfl | rfl
    · rfl
    · split <;> rfl
    · rfl
    · rfl
    · rfl
    · rfl
  · intro v' w' hown' hgrow _
    refine K v' w' (hid ⟨Z ++ [⟨h, g⟩], by rw [List.map_append, h1]; rfl, ?_, ?_⟩) (hid ?_)
    · have e : hcells (Z ++ [⟨h, g⟩]) = hcells Z ++ (HV h g).toList := by simp [hcells]
      rw [e, List.length_append]
      exact hown'
    · intro z hz
      rcases List.mem_append.1 hz with hz | hz
      · exact (h3 z hz).imp id fun hk => ⟨hk.1, hk.2.grown h2 (by decide) hgrow⟩
      · simp at hz; subst hz
        exact hsib.imp id fun hk => ⟨hk.1, hk.2.grown h2 (by decide) hgrow⟩
    · exact (Below.refl base w).grown hgrow hbase (fun k hk => (h2.lt k hk).1)

/-- What is appended first, if it is. -/
def lowH (bn : Int) : Hd := ⟨lowF 5 bn, [], 0, highF 5 bn, lowF 5 bn, false⟩
theorem ixok_zero : IxOk 0 0 0 := .inl ⟨rfl, rfl⟩
theorem ixok_one (n : Int) : IxOk 5 n 1 := .inr ⟨rfl, .inl rfl⟩
theorem own_new (w : World) (cs : Array Value) (t : TypeId) : ∀ j, (w.alloc (.cells cs t)).cell? ⟨w.heap.size, j, none⟩ = cs[j]? := fun j => by
  rw [World.cell?_alloc_at _ _ _ _ rfl]
set_option maxHeartbeats 1000000 in
theorem heads_three (bn d z : Int) (h1 : (lowF 5 bn != 4) = true) (h2 : (bn != 4) = true) (w : World) (ht : Tz w) :
    Calls Tryd.prog 48 #[.agg #[.int .i64 5, .int .i64 bn, .int .i64 0, .int .i64 0, .int .i64 0, .int .i64 d, .int .i64 z]] w fun e w' => ∃ v, e = .returned v ∧ Below w.heap.size w w' ∧ Heads w' w.heap.size v ([lowH bn] ++ [basedH 5 bn 0 0 0] ++ [indexedH 5 bn 1]) := by
  obtain ⟨W, hW⟩ : ∃ W, W = w.alloc (.cells #[.int .i64 5, .int .i64 bn, .int .i64 0, .int .i64 0, .int .i64 0, .int .i64 d, .int .i64 z] 25) := ⟨_, rfl⟩
  have hO := (Own.nil w).alloc w.heap.size #[.int .i64 5, .int .i64 bn, .int .i64 0, .int .i64 0, .int .i64 0, .int .i64 d, .int .i64 z] 25 rfl
  rw [← hW] at hO
  have HT := hid (ht.below hO.below)
  have HC := hid hO.c
  have hlt := hO.z
  have HB := hid (Below.refl W.heap.size W)
  have HW := hid hO.below
  have c0 := hO.c
  have hsz := HB.out.size
  have t1 : True := trivial
  have t2 : True := trivial
  have t3 : True := trivial
  clear ht hO
  go_enter Tryd.func48, Tryd.ntmps48
  go_wp2_with fail
  rw [← hW]
  clear hW
  go_wp2_with (first | (go_at_call 44; (with_reducible refine (low_reg 5 bn _).mono ?_); rintro e wx ⟨rfl, hbx⟩; skip; have HB := hid (HB.out.trans (hbx.mono HB.out.size)); clear hbx; clear c0 hsz; have c0 := fun j => (HB.out.cell (p := ⟨w.heap.size, j, none⟩) hlt).trans (HC.out j); have hsz := HB.out.size) | (go_at_call 45; (with_reducible refine (high_reg 5 bn _).mono ?_); rintro e wx ⟨rfl, hbx⟩; skip; have HB := hid (HB.out.trans (hbx.mono HB.out.size)); clear hbx; clear c0 hsz; have c0 := fun j => (HB.out.cell (p := ⟨w.heap.size, j, none⟩) hlt).trans (HC.out j); have hsz := HB.out.size) | (at_builtin; have _t := t1; refine wpList_append_head rfl _ _ rfl W.heap.size _ [] rfl (Heads.nil _ _) (by simp) _ 1 (lowH bn) 0 _ rfl rfl ?_ ?_ ?_ ?_; exact own_new _ _ _; exact .inl rfl; (simp; omega); intro v' wy hh hb; have HB := hid ((HB.out.alloc HB.out.size _).trans hb.out); have HH := hh; clear hh hb t1; clear c0 hsz; have c0 := fun j => (HB.out.cell (p := ⟨w.heap.size, j, none⟩) hlt).trans (HC.out j); have hsz := HB.out.size) | (go_at_call 69; (with_reducible refine (mbased_any 5 bn 0 0 0 ixok_zero _ (HT.out.below HB.out)).mono ?_); rintro e wx ⟨g1, hg1, rfl, hbx, hk⟩; have HK1 := hid (And.intro (Nat.le_trans hsz hg1) hk); clear hk; have HH := hid (HH.out.below hbx); have HB := hid (HB.out.trans (hbx.mono HB.out.size)); clear hbx; clear c0 hsz; have c0 := fun j => (HB.out.cell (p := ⟨w.heap.size, j, none⟩) hlt).trans (HC.out j); have hsz := HB.out.size) | (at_builtin; have _t := t2; refine wpList_append_head rfl _ _ rfl W.heap.size _ _ rfl (HH.out.below ((Below.refl _ _).alloc (Nat.le_refl _) _)) (by simp) _ 1 (basedH 5 bn 0 0 0) g1 _ (HV_slice (h := basedH 5 bn 0 0 0) (sibF_ne 0 0 0 (lowF 5 bn)) g1).symm rfl ?_ ?_ ?_ ?_; exact own_new _ _ _; exact .inr ⟨HK1.out.1, HK1.out.2.below ((Below.refl _ _).alloc (Nat.le_refl _) _) HK1.out.2.lt⟩; (simp; omega); intro v' wy hh hb; have HB := hid ((HB.out.alloc HB.out.size _).trans hb.out); have HH := hh; clear hh hb t2; clear c0 hsz; have c0 := fun j => (HB.out.cell (p := ⟨w.heap.size, j, none⟩) hlt).trans (HC.out j); have hsz := HB.out.size) | (go_at_call 68; (with_reducible refine (mindexed_any 5 bn 1 (ixok_one bn) _ (HT.out.below HB.out)).mono ?_); rintro e wx ⟨g2, hg2, rfl, hbx, hk⟩; have HK2 := hid (And.intro (Nat.le_trans hsz hg2) hk); clear hk; have HH := hid (HH.out.below hbx); have HB := hid (HB.out.trans (hbx.mono HB.out.size)); clear hbx; clear c0 hsz; have c0 := fun j => (HB.out.cell (p := ⟨w.heap.size, j, none⟩) hlt).trans (HC.out j); have hsz := HB.out.size) | (at_builtin; have _t := t3; refine wpList_append_head rfl _ _ rfl W.heap.size _ _ rfl (HH.out.below ((Below.refl _ _).alloc (Nat.le_refl _) _)) (by simp) _ 1 (indexedH 5 bn 1) g2 _ (HV_slice (h := indexedH 5 bn 1) (sibF_ne 5 bn 1 5) g2).symm rfl ?_ ?_ ?_ ?_; exact own_new _ _ _; exact .inr ⟨HK2.out.1, HK2.out.2.below ((Below.refl _ _).alloc (Nat.le_refl _) _) HK2.out.2.lt⟩; (simp; omega); intro v' wy hh hb; have HB := hid ((HB.out.alloc HB.out.size _).trans hb.out); have HH := hh; clear hh hb t3; clear c0 hsz; have c0 := fun j => (HB.out.cell (p := ⟨w.heap.size, j, none⟩) hlt).trans (HC.out j); have hsz := HB.out.size))
  go_ret
  exact ⟨_, rfl, HW.out.trans (HB.out.mono HW.out.size), HH.out.mono HW.out.size⟩
set_option maxHeartbeats 1000000 in
theorem heads_two (bn d z : Int) (h1 : (lowF 5 bn != 4) = false) (h2 : (bn != 4) = true) (w : World) (ht : Tz w) :
    Calls Tryd.prog 48 #[.agg #[.int .i64 5, .int .i64 bn, .int .i64 0, .int .i64 0, .int .i64 0, .int .i64 d, .int .i64 z]] w fun e w' => ∃ v, e = .returned v ∧ Below w.heap.size w w' ∧ Heads w' w.heap.size v ([basedH 5 bn 0 0 0] ++ [indexedH 5 bn 1]) := by
  obtain ⟨W, hW⟩ : ∃ W, W = w.alloc (.cells #[.int .i64 5, .int .i64 bn, .int .i64 0, .int .i64 0, .int .i64 0, .int .i64 d, .int .i64 z] 25) := ⟨_, rfl⟩
  have hO := (Own.nil w).alloc w.heap.size #[.int .i64 5, .int .i64 bn, .int .i64 0, .int .i64 0, .int .i64 0, .int .i64 d, .int .i64 z] 25 rfl
  rw [← hW] at hO
  have HT := hid (ht.below hO.below)
  have HC := hid hO.c
  have hlt := hO.z
  have HB := hid (Below.refl W.heap.size W)
  have HW := hid hO.below
  have c0 := hO.c
  have hsz := HB.out.size
  have t2 : True := trivial
  have t3 : True := trivial
  clear ht hO
  go_enter Tryd.func48, Tryd.ntmps48
  go_wp2_with fail
  rw [← hW]
  clear hW
  go_wp2_with (first | (go_at_call 44; (with_reducible refine (low_reg 5 bn _).mono ?_); rintro e wx ⟨rfl, hbx⟩; skip; have HB := hid (HB.out.trans (hbx.mono HB.out.size)); clear hbx; clear c0 hsz; have c0 := fun j => (HB.out.cell (p := ⟨w.heap.size, j, none⟩) hlt).trans (HC.out j); have hsz := HB.out.size) | (go_at_call 69; (with_reducible refine (mbased_any 5 bn 0 0 0 ixok_zero _ (HT.out.below HB.out)).mono ?_); rintro e wx ⟨g1, hg1, rfl, hbx, hk⟩; have HK1 := hid (And.intro (Nat.le_trans hsz hg1) hk); clear hk; have HB := hid (HB.out.trans (hbx.mono HB.out.size)); clear hbx; clear c0 hsz; have c0 := fun j => (HB.out.cell (p := ⟨w.heap.size, j, none⟩) hlt).trans (HC.out j); have hsz := HB.out.size) | (at_builtin; have _t := t2; refine wpList_append_head rfl _ _ rfl W.heap.size _ [] rfl (Heads.nil _ _) (by simp) _ 1 (basedH 5 bn 0 0 0) g1 _ (HV_slice (h := basedH 5 bn 0 0 0) (sibF_ne 0 0 0 (lowF 5 bn)) g1).symm rfl ?_ ?_ ?_ ?_; exact own_new _ _ _; exact .inr ⟨HK1.out.1, HK1.out.2.below ((Below.refl _ _).alloc (Nat.le_refl _) _) HK1.out.2.lt⟩; (simp; omega); intro v' wy hh hb; have HB := hid ((HB.out.alloc HB.out.size _).trans hb.out); have HH := hh; clear hh hb t2; clear c0 hsz; have c0 := fun j => (HB.out.cell (p := ⟨w.heap.size, j, none⟩) hlt).trans (HC.out j); have hsz := HB.out.size) | (go_at_call 68; (with_reducible refine (mindexed_any 5 bn 1 (ixok_one bn) _ (HT.out.below HB.out)).mono ?_); rintro e wx ⟨g2, hg2, rfl, hbx, hk⟩; have HK2 := hid (And.intro (Nat.le_trans hsz hg2) hk); clear hk; have HH := hid (HH.out.below hbx); have HB := hid (HB.out.trans (hbx.mono HB.out.size)); clear hbx; clear c0 hsz; have c0 := fun j => (HB.out.cell (p := ⟨w.heap.size, j, none⟩) hlt).trans (HC.out j); have hsz := HB.out.size) | (at_builtin; have _t := t3; refine wpList_append_head rfl _ _ rfl W.heap.size _ _ rfl (HH.out.below ((Below.refl _ _).alloc (Nat.le_refl _) _)) (by simp) _ 1 (indexedH 5 bn 1) g2 _ (HV_slice (h := indexedH 5 bn 1) (sibF_ne 5 bn 1 5) g2).symm rfl ?_ ?_ ?_ ?_; exact own_new _ _ _; exact .inr ⟨HK2.out.1, HK2.out.2.below ((Below.refl _ _).alloc (Nat.le_refl _) _) HK2.out.2.lt⟩; (simp; omega); intro v' wy hh hb; have HB := hid ((HB.out.alloc HB.out.size _).trans hb.out); have HH := hh; clear hh hb t3; clear c0 hsz; have c0 := fun j => (HB.out.cell (p := ⟨w.heap.size, j, none⟩) hlt).trans (HC.out j); have hsz := HB.out.size))
  go_ret
  exact ⟨_, rfl, HW.out.trans (HB.out.mono HW.out.size), HH.out.mono HW.out.size⟩
set_option maxHeartbeats 1000000 in
theorem heads_rsp (bn d z : Int) (h1 : (lowF 5 bn != 4) = false) (h2 : (bn != 4) = false) (w : World) (ht : Tz w) :
    Calls Tryd.prog 48 #[.agg #[.int .i64 5, .int .i64 bn, .int .i64 0, .int .i64 0, .int .i64 0, .int .i64 d, .int .i64 z]] w fun e w' => ∃ v, e = .returned v ∧ Below w.heap.size w w' ∧ Heads w' w.heap.size v ([basedH 5 bn 0 0 0]) := by
  obtain ⟨W, hW⟩ : ∃ W, W = w.alloc (.cells #[.int .i64 5, .int .i64 bn, .int .i64 0, .int .i64 0, .int .i64 0, .int .i64 d, .int .i64 z] 25) := ⟨_, rfl⟩
  have hO := (Own.nil w).alloc w.heap.size #[.int .i64 5, .int .i64 bn, .int .i64 0, .int .i64 0, .int .i64 0, .int .i64 d, .int .i64 z] 25 rfl
  rw [← hW] at hO
  have HT := hid (ht.below hO.below)
  have HC := hid hO.c
  have hlt := hO.z
  have HB := hid (Below.refl W.heap.size W)
  have HW := hid hO.below
  have c0 := hO.c
  have hsz := HB.out.size
  have t2 : True := trivial
  clear ht hO
  go_enter Tryd.func48, Tryd.ntmps48
  go_wp2_with fail
  rw [← hW]
  clear hW
  go_wp2_with (first | (go_at_call 44; (with_reducible refine (low_reg 5 bn _).mono ?_); rintro e wx ⟨rfl, hbx⟩; skip; have HB := hid (HB.out.trans (hbx.mono HB.out.size)); clear hbx; clear c0 hsz; have c0 := fun j => (HB.out.cell (p := ⟨w.heap.size, j, none⟩) hlt).trans (HC.out j); have hsz := HB.out.size) | (go_at_call 69; (with_reducible refine (mbased_any 5 bn 0 0 0 ixok_zero _ (HT.out.below HB.out)).mono ?_); rintro e wx ⟨g1, hg1, rfl, hbx, hk⟩; have HK1 := hid (And.intro (Nat.le_trans hsz hg1) hk); clear hk; have HB := hid (HB.out.trans (hbx.mono HB.out.size)); clear hbx; clear c0 hsz; have c0 := fun j => (HB.out.cell (p := ⟨w.heap.size, j, none⟩) hlt).trans (HC.out j); have hsz := HB.out.size) | (at_builtin; have _t := t2; refine wpList_append_head rfl _ _ rfl W.heap.size _ [] rfl (Heads.nil _ _) (by simp) _ 1 (basedH 5 bn 0 0 0) g1 _ (HV_slice (h := basedH 5 bn 0 0 0) (sibF_ne 0 0 0 (lowF 5 bn)) g1).symm rfl ?_ ?_ ?_ ?_; exact own_new _ _ _; exact .inr ⟨HK1.out.1, HK1.out.2.below ((Below.refl _ _).alloc (Nat.le_refl _) _) HK1.out.2.lt⟩; (simp; omega); intro v' wy hh hb; have HB := hid ((HB.out.alloc HB.out.size _).trans hb.out); have HH := hh; clear hh hb t2; clear c0 hsz; have c0 := fun j => (HB.out.cell (p := ⟨w.heap.size, j, none⟩) hlt).trans (HC.out j); have hsz := HB.out.size))
  go_ret
  exact ⟨_, rfl, HW.out.trans (HB.out.mono HW.out.size), HH.out.mono HW.out.size⟩
end Go.Proofs.YtiiepdgpnnjpiaaDoor
