/-
  slices.Concat of three slices of bytes: a new block, known whole: the bytes, and room behind them.
-/
import Derived.Test.YtiiepdgpnnjpiaaDoorFKept
import Derived.Test.YtiiepdgpnnjpiaaDoorFCur
namespace Go.Proofs.YtiiepdgpnnjpiaaDoor
open Go.RowKit
set_option maxRecDepth 100000

/-- append of so many zeros onto nil. -/
theorem run_grow_zero (n : Nat) (h1 : 1 ≤ n) (h2 : n ≤ 100) (ty : TypeId) (W : World) :
    (Builtin.append_ #[32, 3] ty #[.slice none 0 0, .int .i64 (n : Int)]).run Tryd.prog W =
      .ok (.slice (some ⟨W.heap.size, 0, none⟩) n (grownCap W n 0 5)) (W.drew.alloc (.cells (Array.replicate (grownCap W n 0 5) (.int .u8 0)) 5)) := by
  obtain ⟨i, hi, hz, hs1, hs2⟩ := info_parts infoByte
  have hge := grownCap_ge W n 0 5
  have hn : n ≠ 0 := by omega
  have hw : IntKind.i64.wrap (n : Int) = n := IntWalk.i64_in _ (by omega)
  have hneg : ¬ ((n : Int) < 0) := by omega
  have h63' : ¬ (9223372036854775807 < (n : Int)) := by omega
  have h48 : ¬ (281474976710656 < (n : Int)) := by omega
  have h48' : ¬ (281474976710656 < Builtin.nextslicecap n 0) := by rw [nextslicecap_zero (by omega)]; omega
  have hc : (Builtin.zeroCells #[Value.int .u8 0] n ++ Builtin.zeroCells #[Value.int .u8 0] (grownCap W n 0 5 - n)) = Array.replicate (grownCap W n 0 5) (Value.int .u8 0) := by
    apply Array.ext
    · simp [Builtin.zeroCells]; omega
    · intro j a b
      simp [Builtin.zeroCells, Nat.mod_one, Array.getElem_append]
  rw [← hc]
  simp [Builtin.append_, run_underlying Tryd.underlying32, run_underlying Tryd.underlying3, sizeOf, typeInfo, zeroValue, hi, hz, hs1, hs2, Builtin.lenOf, hn, hw, hneg, h63', h48, h48', Question.forced, run_firstCells_none, newRow, grownCap, asInt, asIntOf, Value.cells]

theorem wpList_append_zero {w : World} {ops : Array Oper} {rest : List Oper} {o : Oper} {a : Act} {Q : Exit → Act → World → Prop} (hgd : o.guard = none) (s x : Operand)
    (ho : o.op = .call { callee := .builtin .append, args := #[s, x], argTypes := #[32, 3] }) (n : Nat) (hs : a.eval s = .slice none 0 0) (hx : a.eval x = .int .i64 (n : Int)) (h1 : 1 ≤ n) (h2 : n ≤ 100)
    (h : ∀ C, n ≤ C ∧ C ≤ 9223372036854775807 → wpList Tryd.prog ops Q rest (a.put o.dst (.slice (some ⟨w.heap.size, 0, none⟩) n C)) (w.drew.alloc (.cells (Array.replicate C (.int .u8 0)) 5))) : wpList Tryd.prog ops Q (o :: rest) a w := by
  have hr := run_grow_zero n h1 h2 o.type w
  refine wpList_plain hgd fun K hK => ?_
  unfold Oper.wp execOp
  simp only [ho, resolve, invoke, builtin, Sem.run_bind, Sem.run_pure, Result.andThen_ok, List.map_toArray, List.map_cons, List.map_nil, hs, hx, hr]
  exact hK _ _ (h _ ⟨grownCap_ge w n 0 5, grownCap_le_maxLen w n 0 5 (by unfold maxLen; omega)⟩)

/-- append of bytes that are somewhere, nil too, into the room of a block that is known whole. -/
theorem wpList_append_in {w : World} {ops : Array Oper} {rest : List Oper} {o : Oper} {a : Act} {Q : Exit → Act → World → Prop} (hgd : o.guard = none) (s x : Operand)
    (ho : o.op = .call { callee := .builtin .append, args := #[s, x], argTypes := #[32, 32] })
    (g n C : Nat) (zs : List Int) (hg : ByB w g 5 zs) (hC : zs.length = C) (hs : a.eval s = .slice (some ⟨g, 0, none⟩) n C)
    (A : Option Addr) (m c B : Nat) (ys : List Int) (hm : ys.length = m) (hx : a.eval x = .slice A m c) (hy : Mem w B A ys) (hroom : n + m ≤ C)
    (h : ∀ w', Hid (ByB w' g 5 (zs.take n ++ ys ++ zs.drop (n + m))) → Hid (w.grownBy w' (some g)) → wpList Tryd.prog ops Q rest (a.put o.dst (.slice (some ⟨g, 0, none⟩) (n + m) C)) w') : wpList Tryd.prog ops Q (o :: rest) a w := by
  subst hm hC
  obtain ⟨i0, hi, hz0, hz1, hz2⟩ := info_parts infoByte
  obtain ⟨_, hy⟩ := hy
  rcases A with _ | ad
  · have : ys = [] := by
      rcases hy with h0 | ⟨_, _, h0, _⟩
      · exact h0
      · cases h0
    subst this
    have hn : n ≤ zs.length := by simpa using hroom
    have hrun : (Builtin.append_ #[32, 32] o.type #[.slice (some ⟨g, 0, none⟩) n zs.length, .slice none 0 c]).run Tryd.prog w = .ok (.slice (some ⟨g, 0, none⟩) n zs.length) w := by
      simp [Builtin.append_, run_underlying Tryd.underlying32, sizeOf, typeInfo, hi, Builtin.lenOf, Builtin.firstCells, hn, storeCells]
    refine wpList_plain hgd fun K hK => ?_
    unfold Oper.wp
    simp [execOp, ho, resolve, invoke, builtin, hs, hx, hrun, Result.andThen]
    exact hK _ _ (by simpa using h w (hid (by simpa using hg)) (hid (World.grownBy.refl w _)))
  · have hr := run_append_room (P := Tryd.prog) w 32 o.type 5 i0 Tryd.underlying32 hi g n zs.length _ hg ad ys.length c (ys.map (Value.int .u8)) (by simp [hz1]) ?_ (fun v hv => by obtain ⟨z, _, rfl⟩ := List.mem_map.1 hv; rfl) hroom (by simp [hz1]; omega)
    · refine wpList_plain hgd fun K hK => ?_
      unfold Oper.wp execOp
      simp only [ho, resolve, invoke, builtin, Sem.run_bind, Sem.run_pure, Result.andThen_ok, List.map_toArray, List.map_cons, List.map_nil, hs, hx, hr]
      refine hK _ _ (h _ (hid ?_) (hid ⟨rfl, rfl, rfl, by simp, fun k _ hk => setRow_other w g k _ (fun e => hk (by rw [e]))⟩))
      have := setRow_heap w g _ ((List.take (n * i0.size) (List.map (Value.int IntKind.u8) zs).toArray.toList ++ List.map (Value.int IntKind.u8) ys) ++ List.drop (n * i0.size + (List.map (Value.int IntKind.u8) ys).length) (List.map (Value.int IntKind.u8) zs).toArray.toList).toArray 5 (0, 0) hg
      unfold ByB
      rw [this]
      simp [hz1, List.map_take, List.map_drop]
    · intro j u hu
      rcases hy with rfl | ⟨b, off, h0, _, hc⟩
      · simp at hu
      · injection h0 with h0
        subst h0
        have hadd : (⟨b, off, none⟩ : Addr).add j = ⟨b, off + j, none⟩ := by unfold Addr.add; split <;> simp_all
        rw [hadd]
        rw [List.getElem?_map] at hu
        rcases Nat.lt_or_ge j ys.length with hl | hl
        · rw [hc j hl, ← hu]; simp [hl]
        · rw [List.getElem?_eq_none hl] at hu; cases hu

theorem grow_any (n : Nat) (h1 : 1 ≤ n) (h2 : n ≤ 100) (w : World) :
    Calls Tryd.prog 72 #[.slice none 0 0, .int .i64 (n : Int)] w fun e w' => ∃ C : Nat, (n ≤ C ∧ C ≤ 9223372036854775807) ∧ e = .returned (.slice (some ⟨w.heap.size, 0, none⟩) 0 C) ∧ Below w.heap.size w w' ∧ ByB w' w.heap.size 5 (List.replicate C 0) := by
  have b1 : (0 : Int) < n := by omega
  have b2 : (n : Int) ≤ 100 := by omega
  have b3 : (0 : Int) ≤ n := by omega
  go_enter Tryd.func72, Tryd.ntmps72
  go_wp2_with (at_builtin; refine wpList_append_zero rfl _ _ rfl n rfl rfl h1 h2 ?_; intro C hC)
  go_ret
  exact ⟨C, hC, rfl, ((Below.refl _ _).drew.alloc (Nat.le_refl _) _), ByB.zeros w.drew C 5⟩

theorem grow_of {m : Int} (n : Nat) (hm : m = (n : Int)) (h1 : 1 ≤ n) (h2 : n ≤ 100) (w : World) :
    Calls Tryd.prog 72 #[.slice none 0 0, .int .i64 m] w fun e w' => ∃ C : Nat, (n ≤ C ∧ C ≤ 9223372036854775807) ∧ e = .returned (.slice (some ⟨w.heap.size, 0, none⟩) 0 C) ∧ Below w.heap.size w w' ∧ ByB w' w.heap.size 5 (List.replicate C 0) := by
  subst hm; exact grow_any n h1 h2 w
/-- A slice of bytes as it stands in another slice's cells: where, how many, how much room, which. -/
structure Sl where
  A : Option Addr
  n : Nat
  c : Nat
  xs : List Int
abbrev Sl.v (s : Sl) : Value := .slice s.A s.n s.c
def SlOk (w : World) (B : Nat) (s : Sl) : Prop := s.xs.length = s.n ∧ Mem w B s.A s.xs
def cat3 (s0 s1 s2 : Sl) (k : Nat) : List Int := if k = 0 then [] else if k = 1 then s0.xs else if k = 2 then s0.xs ++ s1.xs else s0.xs ++ s1.xs ++ s2.xs
def cnt3 (s0 s1 s2 : Sl) (k : Nat) : Nat := if k = 0 then 0 else if k = 1 then s0.n else if k = 2 then s0.n + s1.n else s0.n + s1.n + s2.n
theorem ByB.step {w : World} {g : Nat} {t : TypeId} {zs ws : List Int} (h : ByB w g t zs) (e : zs = ws) : ByB w g t ws := e ▸ h
theorem room_step (xs ys : List Int) (C n m : Nat) (hn : xs.length = n) (hm : ys.length = m) (h : n + m ≤ C) :
    (xs ++ List.replicate (C - n) 0).take n ++ ys ++ (xs ++ List.replicate (C - n) 0).drop (n + m) = (xs ++ ys) ++ List.replicate (C - (n + m)) 0 := by
  subst hn hm
  rw [List.take_left, List.drop_append, List.drop_eq_nil_of_le (by omega), List.nil_append, List.drop_replicate]
  congr 2
  omega
set_option maxHeartbeats 1000000 in
theorem concat_any (g : Nat) (s0 s1 s2 : Sl) (B : Nat) (w : World) (h0 : SlOk w B s0) (h1 : SlOk w B s1) (h2 : SlOk w B s2) (c0 : w.cell? ⟨g, 0, none⟩ = some s0.v) (c1 : w.cell? ⟨g, 1, none⟩ = some s1.v) (c2 : w.cell? ⟨g, 2, none⟩ = some s2.v)
    (hB : B ≤ w.heap.size) (hg : g < w.heap.size) (hlo : 1 ≤ s0.n + s1.n + s2.n) (hhi : s0.n + s1.n + s2.n ≤ 100) :
    Calls Tryd.prog 50 #[.slice (some ⟨g, 0, none⟩) 3 3] w fun e w' => ∃ C : Nat, (s0.n + s1.n + s2.n ≤ C ∧ C ≤ 9223372036854775807) ∧ e = .returned (.slice (some ⟨w.heap.size, 0, none⟩) (s0.n + s1.n + s2.n) C) ∧ Below w.heap.size w w' ∧
      ByB w' w.heap.size 5 (s0.xs ++ s1.xs ++ s2.xs ++ List.replicate (C - (s0.n + s1.n + s2.n)) 0) := by
  obtain ⟨A0, n0, k0, xs0⟩ := s0
  obtain ⟨A1, n1, k1, xs1⟩ := s1
  obtain ⟨A2, n2, k2, xs2⟩ := s2
  simp only [Sl.v] at c0 c1 c2
  have H0 := hid h0; have H1 := hid h1; have H2 := hid h2
  clear h0 h1 h2
  simp only at hlo hhi
  go_enter Tryd.func50, Tryd.ntmps50
  go_wp2
  go_loop [3, 11] (fun t i => ∃ k : Nat, k ≤ 3 ∧ i = .int .i64 k ∧ t = .int .i64 (cnt3 ⟨A0, n0, k0, xs0⟩ ⟨A1, n1, k1, xs1⟩ ⟨A2, n2, k2, xs2⟩ k : Nat)) (fun _ i => 3 - (intOf i).toNat)
  case atStart => exact ⟨0, by omega, rfl, rfl⟩
  case round =>
    obtain ⟨k, hk, rfl, rfl⟩ := hrel
    have hkk : k = 0 ∨ k = 1 ∨ k = 2 ∨ k = 3 := by omega
    clear hk
    rcases hkk with rfl | rfl | rfl | rfl
    · simp only [cnt3]
      go_wp2
      go_round
      case rel => exact ⟨1, by omega, rfl, rfl⟩
      case measure => simp [intOf]
    · simp only [cnt3]
      go_wp2
      go_round
      case rel => exact ⟨2, by omega, rfl, rfl⟩
      case measure => simp [intOf]
    · simp only [cnt3]
      go_wp2
      go_round
      case rel => exact ⟨3, by omega, rfl, rfl⟩
      case measure => simp [intOf]
    · simp only [cnt3]
      go_wp2_with (go_at_call 72; refine (grow_of (n0 + n1 + n2) (by omega) hlo hhi _).mono ?_; rintro e w1 ⟨C, hC, rfl, hb1, hk1⟩; have HB1 := hid hb1; have HK1 := hid hk1; clear hb1 hk1)
      go_loopw [6, 27] (fun v i wr => ∃ k : Nat, k ≤ 3 ∧ i = .int .i64 k ∧ v = .slice (some ⟨w.heap.size, 0, none⟩) (cnt3 ⟨A0, n0, k0, xs0⟩ ⟨A1, n1, k1, xs1⟩ ⟨A2, n2, k2, xs2⟩ k) C ∧ Below w.heap.size w wr ∧
        ByB wr w.heap.size 5 (cat3 ⟨A0, n0, k0, xs0⟩ ⟨A1, n1, k1, xs1⟩ ⟨A2, n2, k2, xs2⟩ k ++ List.replicate (C - cnt3 ⟨A0, n0, k0, xs0⟩ ⟨A1, n1, k1, xs1⟩ ⟨A2, n2, k2, xs2⟩ k) 0)) (fun _ i _ => 3 - (intOf i).toNat)
      case atStart => exact ⟨0, by omega, rfl, rfl, HB1.out, by simpa [cnt3, cat3] using HK1.out⟩
      case round =>
        obtain ⟨k, hk, rfl, rfl, hbel, hblk⟩ := hrel
        have hkk : k = 0 ∨ k = 1 ∨ k = 2 ∨ k = 3 := by omega
        have HB := hid hbel
        have HK := hid hblk
        clear hk HB1 HK1 hbel hblk
        rcases hkk with rfl | rfl | rfl | rfl
        · have hc := (HB.out.cell (p := ⟨g, 0, none⟩) hg).trans c0
          have hl : ([] : List Int).length = 0 := rfl
          have HL := hid hl
          have HZ := hid (show (([] : List Int) ++ List.replicate (C - (0)) 0).length = C by rw [List.length_append, hl, List.length_replicate]; omega)
          have HM := hid (H0.out.2.below (HB.out.mono hB))
          have hroom : 0 + n0 ≤ C := by omega
          clear hl
          simp only [cnt3]
          go_wp2_with (at_builtin; refine wpList_append_in rfl _ _ rfl w.heap.size (0) C _ HK.out HZ.out rfl A0 n0 k0 B xs0 H0.out.1 rfl HM.out hroom ?_; intro w2 hb2 hg2)
          have HB2 := hid (HB.out.grown hg2.out HB.out.size (fun j e => by cases e; exact Nat.le_refl _))
          have HK2 := hid (show ByB w2 w.heap.size 5 (xs0 ++ List.replicate (C - n0) 0) from (hb2.out.step (room_step ([]) xs0 C (0) n0 HL.out H0.out.1 hroom)).step (by rw [List.nil_append, Nat.zero_add]))
          clear hb2 hg2 hc
          go_wp2
          go_roundw
          case rel => exact ⟨1, by omega, rfl, rfl, HB2.out, HK2.out⟩
          case measure => simp [intOf]
        · have hc := (HB.out.cell (p := ⟨g, 1, none⟩) hg).trans c1
          have hl : (xs0 : List Int).length = n0 := H0.out.1
          have HL := hid hl
          have HZ := hid (show ((xs0 : List Int) ++ List.replicate (C - (n0)) 0).length = C by rw [List.length_append, hl, List.length_replicate]; omega)
          have HM := hid (H1.out.2.below (HB.out.mono hB))
          have hroom : n0 + n1 ≤ C := by omega
          clear hl
          simp only [cnt3]
          go_wp2_with (at_builtin; refine wpList_append_in rfl _ _ rfl w.heap.size (n0) C _ HK.out HZ.out rfl A1 n1 k1 B xs1 H1.out.1 rfl HM.out hroom ?_; intro w2 hb2 hg2)
          have HB2 := hid (HB.out.grown hg2.out HB.out.size (fun j e => by cases e; exact Nat.le_refl _))
          have HK2 := hid (hb2.out.step (room_step (xs0) xs1 C (n0) n1 HL.out H1.out.1 hroom))
          clear hb2 hg2 hc
          go_wp2
          go_roundw
          case rel => exact ⟨2, by omega, rfl, rfl, HB2.out, HK2.out⟩
          case measure => simp [intOf]
        · have hc := (HB.out.cell (p := ⟨g, 2, none⟩) hg).trans c2
          have hl : (xs0 ++ xs1 : List Int).length = n0 + n1 := by simp [H0.out.1, H1.out.1]
          have HL := hid hl
          have HZ := hid (show ((xs0 ++ xs1 : List Int) ++ List.replicate (C - (n0 + n1)) 0).length = C by rw [List.length_append, hl, List.length_replicate]; omega)
          have HM := hid (H2.out.2.below (HB.out.mono hB))
          have hroom : n0 + n1 + n2 ≤ C := by omega
          clear hl
          simp only [cnt3]
          go_wp2_with (at_builtin; refine wpList_append_in rfl _ _ rfl w.heap.size (n0 + n1) C _ HK.out HZ.out rfl A2 n2 k2 B xs2 H2.out.1 rfl HM.out hroom ?_; intro w2 hb2 hg2)
          have HB2 := hid (HB.out.grown hg2.out HB.out.size (fun j e => by cases e; exact Nat.le_refl _))
          have HK2 := hid (hb2.out.step (room_step (xs0 ++ xs1) xs2 C (n0 + n1) n2 HL.out H2.out.1 hroom))
          clear hb2 hg2 hc
          go_wp2
          go_roundw
          case rel => exact ⟨3, by omega, rfl, rfl, HB2.out, HK2.out⟩
          case measure => simp [intOf]
        · simp only [cnt3]
          go_wp2
          go_ret
          exact ⟨C, hC, rfl, HB.out, HK.out⟩
end Go.Proofs.YtiiepdgpnnjpiaaDoor
