/-
  Law 10: RexBack, case by case (no bytes).
-/
import Derived.Test.YtgioggpehlhbfaaRxBack0
import Derived.Test.YtgioggpehlhbfaaRxLaws
namespace Go.Proofs.Ytgioggpehlhbfaa
open Go.RowKit
set_option maxRecDepth 100000

theorem own_full {w : World} {base n : Nat} {v : Value} {zs : List Int} (h : OwnB w base v n zs) (hz : isBytes zs) : ∃ A c, v = .slice A n c ∧ Mem w w.heap.size A zs ∧ zs.length = n ∧ n ≤ c ∧ c ≤ 9223372036854775807 := by
  have h0 : w.ownsRow base 5 1 v n (zs.map (Value.int .u8)) := h
  rcases h0.2 with ⟨rfl, rfl⟩ | ⟨g, cap, cur, rfl, _, _, h1, h2, _⟩
  · obtain ⟨hm, hl⟩ := own_mem h0 hz (Nat.le_refl _)
    exact ⟨none, 0, rfl, hm, hl, by omega, by omega⟩
  · obtain ⟨hm, hl⟩ := own_mem h0 hz (Nat.le_refl _)
    exact ⟨_, cap, rfl, hm, hl, h1, by unfold maxLen at h2; omega⟩
theorem own_down {w : World} {base base' n : Nat} {t : TypeId} {v : Value} {xs : List Value} (h : w.ownsRow base t 1 v n xs) (hb : base' ≤ base) : w.ownsRow base' t 1 v n xs := by
  refine ⟨h.1, ?_⟩
  rcases h.2 with h0 | ⟨g, cap, cur, e, hg, r⟩
  · exact .inl h0
  · exact .inr ⟨g, cap, cur, e, by omega, r⟩
theorem own_from {w : World} {base n : Nat} {t : TypeId} {v : Value} {xs : List Value} (h : w.ownsRow base t 1 v n xs) : ∀ k, v.ownBlock = some k → base ≤ k := fun k hk => (h.lt k hk).1
/-- append of bytes that are somewhere, nil too, onto a row of the call's own, behind a guard that lets it by. -/
theorem wpList_append_bytes_w {w : World} {ops : Array Oper} {rest : List Oper} {o : Oper} {a : Act} {Q : Exit → Act → World → Prop} (hw : Region.wanted o (yielded ops a.tmps) = true) (s x : Operand)
    (ho : o.op = .call { callee := .builtin .append, args := #[s, x], argTypes := #[22, 22] })
    (base : Nat) (v : Value) (n : Nat) (xs : List Int) (hs : a.eval s = v) (hown : w.ownsRow base 5 1 v n (xs.map (Value.int .u8)))
    (A : Option Addr) (m c B : Nat) (ys : List Int) (hm : ys.length = m) (hx : a.eval x = .slice A m c) (hy : Mem w B A ys) (hb : n + m ≤ 100000000000) (hbase : base ≤ w.heap.size)
    (h : ∀ v' w', Hid (OwnB w' base v' (n + m) (xs ++ ys)) → w.grownBy w' v.ownBlock → wpList Try.prog ops Q rest (a.put o.dst v') w') : wpList Try.prog ops Q (o :: rest) a w := by
  subst hm
  obtain ⟨i0, hi, hz0, hz1, hz2⟩ := info_parts infoByte
  obtain ⟨_, hy⟩ := hy
  have hr : ∃ v' w', (Builtin.append_ #[22, 22] o.type #[v, .slice A ys.length c]).run Try.prog w = .ok v' w' ∧ OwnB w' base v' (n + ys.length) (xs ++ ys) ∧ w.grownBy w' v.ownBlock := by
    rcases A with _ | ad
    · have : ys = [] := by
        rcases hy with h0 | ⟨_, _, h0, _⟩
        · exact h0
        · cases h0
      subst this
      refine ⟨v, w, ?_, by unfold OwnB; simpa using hown, World.grownBy.refl w _⟩
      rcases hown.2 with ⟨rfl, rfl⟩ | ⟨g, cap, cur, rfl, _, _, hnc, _⟩
      · simp [Builtin.append_, run_underlying Try.underlying22, sizeOf, typeInfo, hi, Builtin.lenOf, Builtin.firstCells]
      · simp [Builtin.append_, run_underlying Try.underlying22, sizeOf, typeInfo, hi, Builtin.lenOf, Builtin.firstCells, hnc, storeCells]
    · obtain ⟨v', w', h1, h2, h3, _⟩ := run_append_own (P := Try.prog) w base 22 o.type 5 i0 (.int .u8 0) 1 1 Try.underlying22 hi hz0 hz1 hz2 rfl (by decide) v n _ hown ad ys.length c (ys.map (Value.int .u8)) (by simp) (by
        intro j u hu
        rcases hy with rfl | ⟨b, off, h0, _, hc⟩
        · simp at hu
        · injection h0 with h0
          subst h0
          have hadd : (⟨b, off, none⟩ : Addr).add j = ⟨b, off + j, none⟩ := by unfold Addr.add; split <;> simp_all
          rw [hadd]
          rw [List.getElem?_map] at hu
          rcases Nat.lt_or_ge j ys.length with hl | hl
          · rw [hc j hl, ← hu]; simp [hl]
          · rw [List.getElem?_eq_none hl] at hu; cases hu) (fun v hv => by obtain ⟨z, _, rfl⟩ := List.mem_map.1 hv; rfl) (by unfold maxLen; omega) (by omega) hbase
      exact ⟨v', w', h1, by unfold OwnB; rw [List.map_append]; exact h2, h3⟩
  obtain ⟨v', w', hr, h1, h2⟩ := hr
  refine wpList_step fun K hK => ?_
  rw [if_pos hw]
  unfold Oper.wp execOp
  simp only [ho, resolve, invoke, builtin, Sem.run_bind, Sem.run_pure, Result.andThen_ok, List.map_toArray, List.map_cons, List.map_nil, hs, hx, hr]
  exact hK _ _ (h v' w' (hid h1) h2)
theorem take_len {zs : List Int} {k : Nat} (h : k ≤ zs.length) : (zs.take k).length = k := by rw [List.length_take]; omega
set_option maxHeartbeats 1000000 in
theorem bk_n0 (pre n : Int) (A : Option Addr) (c N : Nat) (zs ls : List Int) (p r : Int) (k : Nat) (w : World) (hb : ((N : Int) == 0) = true) (g0 : n < 0)
    (HX : Hid (Mem w w.heap.size A zs)) (HN : Hid (zs.length = N)) (hl2 : (N : Int) ≤ 20) (HZ : Hid (layE pre n = 0)) (HLS : Hid (layB pre n = ls ∧ ls.length ≤ 1000)) (HBP : Hid (rdP (ls ++ zs) = pre ∧ rdR (ls ++ zs) = n ∧ rdN (ls ++ zs) = ls.length))
    (HRL : Hid (layE p r = 0 ∧ layB p r = zs.take k ∧ k ≤ 3 ∧ k ≤ zs.length)) (hk3 : (k : Int) ≤ 3 ∧ (k : Int) ≤ N ∧ (0 : Int) ≤ k) (hc2 : (N : Int) ≤ c ∧ (c : Int) ≤ 9223372036854775807) (HRead : Hid (∀ W : World, Mem W W.heap.size A zs → Calls Try.prog 17 #[.slice A N c] W fun e w' => e = .returned (.tuple #[.int .i64 p, .int .i64 r, .int .i64 k]) ∧ Below W.heap.size W w')) :
    Calls Try.prog 6 #[.int .i64 pre, .int .i64 n, .slice A N c] w fun e w' => e = .returned (.bool true) ∧ Below w.heap.size w w' := by
  go_enter Try.func6, Try.ntmps6
  go_wp2_with (first
    | (go_at_call 5; refine (known_law _).mono ?_; rintro e w1 ⟨rfl, hb1⟩; have HB1 := hid hb1; clear hb1)
    | (go_at_call 7; refine (xlay_of HZ.out HLS.out.1 _).mono ?_; rintro e w2 ⟨A2, c2, rfl, hb2, hr2, hm2, _, _⟩; have HB2 := hid (HB1.out.trans (hb2.mono HB1.out.size)); have HM2 := hid hm2; clear hb2 hr2 hm2; have HXW := hid (HX.out.below HB2.out))
    | (go_at_call 11; refine (bits_any _ _).mono ?_; rintro e w5 ⟨rfl, rfl⟩)
    | (go_at_call 22; refine (copyb_any A2 c2 ls _ _ HM2.out (by have := HLS.out.2; omega) (Nat.le_refl _)).mono ?_; rintro e w5 ⟨v5, rfl, hb5, ho5⟩; have HB5 := hid (HB2.out.trans (hb5.mono HB2.out.size)); have HO5 := hid ho5; clear hb5 ho5)
    | (at_builtin; refine wpList_append_bytes_w rfl _ _ rfl w.heap.size v5 ls.length ls rfl (own_down HO5.out HB2.out.size) A N c w.heap.size zs HN.out rfl (HX.out.below HB5.out) (by have := HLS.out.2; omega) HB5.out.size ?_; intro v6 w6 ho6 hg6; obtain ⟨A6, c6, rfl, hm6, hl6, hc6, hd6⟩ := own_full ho6.out (HM2.out.1.append HX.out.1); have HM6 := hid (And.intro hm6 (And.intro hl6 (And.intro hc6 hd6))); have HB6 := hid (HB5.out.grown hg6 HB5.out.size (own_from (own_down HO5.out HB2.out.size))); clear ho6 hg6 hm6 hl6 hc6 hd6)
    | (go_at_call 21; refine (reads_yes A6 (ls.length + N) c6 (ls ++ zs) pre n ls.length HBP.out.1 HBP.out.2.1 HBP.out.2.2 HM6.out.2.1 HM6.out.2.2.1 HM6.out.2.2.2 _ HM6.out.1).mono ?_; rintro e w7 ⟨rfl, hb7⟩; have HB7 := hid (HB6.out.trans (hb7.mono HB6.out.size)); clear hb7)
    | (go_at_call 17; refine (HRead.out _ ((HX.out.below HB7.out).mono HB7.out.size)).mono ?_; rintro e w8 ⟨rfl, hb8⟩; have HB8 := hid (HB7.out.trans (hb8.mono HB7.out.size)); clear hb8)
    | (go_at_call 20; refine (lays_yes p r (zs.take k) HRL.out.1 HRL.out.2.1 _ k c (take_len HRL.out.2.2.2) _ (((HX.out.below HB8.out).mono HB8.out.size).take k)).mono ?_; rintro e w9 ⟨rfl, hb9⟩; have HB9 := hid (HB8.out.trans (hb9.mono HB8.out.size)); clear hb9))
  go_ret
  exact ⟨rfl, HB9.out⟩
set_option maxHeartbeats 1000000 in
theorem bk_n1 (pre n : Int) (A : Option Addr) (c N : Nat) (zs ls : List Int) (p r : Int) (k : Nat) (w : World) (hb : ((N : Int) == 0) = true) (g0 : 0 ≤ n) (g1 : n ≤ 15)
    (HX : Hid (Mem w w.heap.size A zs)) (HN : Hid (zs.length = N)) (hl2 : (N : Int) ≤ 20) (HZ : Hid (layE pre n = 0)) (HLS : Hid (layB pre n = ls ∧ ls.length ≤ 1000)) (HR : Hid (rexF (bW n) (bR n) (bX n) (bB n) = n)) (HBP : Hid (rdP (ls ++ zs) = pre ∧ rdR (ls ++ zs) = n ∧ rdN (ls ++ zs) = ls.length))
    (HRL : Hid (layE p r = 0 ∧ layB p r = zs.take k ∧ k ≤ 3 ∧ k ≤ zs.length)) (hk3 : (k : Int) ≤ 3 ∧ (k : Int) ≤ N ∧ (0 : Int) ≤ k) (hc2 : (N : Int) ≤ c ∧ (c : Int) ≤ 9223372036854775807) (HRead : Hid (∀ W : World, Mem W W.heap.size A zs → Calls Try.prog 17 #[.slice A N c] W fun e w' => e = .returned (.tuple #[.int .i64 p, .int .i64 r, .int .i64 k]) ∧ Below W.heap.size W w')) :
    Calls Try.prog 6 #[.int .i64 pre, .int .i64 n, .slice A N c] w fun e w' => e = .returned (.bool true) ∧ Below w.heap.size w w' := by
  go_enter Try.func6, Try.ntmps6
  go_wp2_with (first
    | (go_at_call 5; refine (known_law _).mono ?_; rintro e w1 ⟨rfl, hb1⟩; have HB1 := hid hb1; clear hb1)
    | (go_at_call 7; refine (xlay_of HZ.out HLS.out.1 _).mono ?_; rintro e w2 ⟨A2, c2, rfl, hb2, hr2, hm2, _, _⟩; have HB2 := hid (HB1.out.trans (hb2.mono HB1.out.size)); have HM2 := hid hm2; clear hb2 hr2 hm2; have HXW := hid (HX.out.below HB2.out))
    | (go_at_call 11; refine (bits_any _ _).mono ?_; rintro e w5 ⟨rfl, rfl⟩)
    | (go_at_call 13; refine (rex_of HR.out _).mono ?_; rintro e w5 ⟨rfl, rfl⟩)
    | (go_at_call 22; refine (copyb_any A2 c2 ls _ _ HM2.out (by have := HLS.out.2; omega) (Nat.le_refl _)).mono ?_; rintro e w5 ⟨v5, rfl, hb5, ho5⟩; have HB5 := hid (HB2.out.trans (hb5.mono HB2.out.size)); have HO5 := hid ho5; clear hb5 ho5)
    | (at_builtin; refine wpList_append_bytes_w rfl _ _ rfl w.heap.size v5 ls.length ls rfl (own_down HO5.out HB2.out.size) A N c w.heap.size zs HN.out rfl (HX.out.below HB5.out) (by have := HLS.out.2; omega) HB5.out.size ?_; intro v6 w6 ho6 hg6; obtain ⟨A6, c6, rfl, hm6, hl6, hc6, hd6⟩ := own_full ho6.out (HM2.out.1.append HX.out.1); have HM6 := hid (And.intro hm6 (And.intro hl6 (And.intro hc6 hd6))); have HB6 := hid (HB5.out.grown hg6 HB5.out.size (own_from (own_down HO5.out HB2.out.size))); clear ho6 hg6 hm6 hl6 hc6 hd6)
    | (go_at_call 21; refine (reads_yes A6 (ls.length + N) c6 (ls ++ zs) pre n ls.length HBP.out.1 HBP.out.2.1 HBP.out.2.2 HM6.out.2.1 HM6.out.2.2.1 HM6.out.2.2.2 _ HM6.out.1).mono ?_; rintro e w7 ⟨rfl, hb7⟩; have HB7 := hid (HB6.out.trans (hb7.mono HB6.out.size)); clear hb7)
    | (go_at_call 17; refine (HRead.out _ ((HX.out.below HB7.out).mono HB7.out.size)).mono ?_; rintro e w8 ⟨rfl, hb8⟩; have HB8 := hid (HB7.out.trans (hb8.mono HB7.out.size)); clear hb8)
    | (go_at_call 20; refine (lays_yes p r (zs.take k) HRL.out.1 HRL.out.2.1 _ k c (take_len HRL.out.2.2.2) _ (((HX.out.below HB8.out).mono HB8.out.size).take k)).mono ?_; rintro e w9 ⟨rfl, hb9⟩; have HB9 := hid (HB8.out.trans (hb9.mono HB8.out.size)); clear hb9))
  go_ret
  exact ⟨rfl, HB9.out⟩
set_option maxHeartbeats 1000000 in
theorem bk_n2 (pre n : Int) (A : Option Addr) (c N : Nat) (zs ls : List Int) (p r : Int) (k : Nat) (w : World) (z : Int) (hz : (z == 0) = false) (hb : ((N : Int) == 0) = true) (g0 : n < 0)
    (HX : Hid (Mem w w.heap.size A zs)) (_ : Hid (zs.length = N)) (hl2 : (N : Int) ≤ 20) (HZ : Hid (layE pre n = z)) (HLS : Hid (layB pre n = ls ∧ ls.length ≤ 1000))
    (HRL : Hid (layE p r = 0 ∧ layB p r = zs.take k ∧ k ≤ 3 ∧ k ≤ zs.length)) (hk3 : (k : Int) ≤ 3 ∧ (k : Int) ≤ N ∧ (0 : Int) ≤ k) (hc2 : (N : Int) ≤ c ∧ (c : Int) ≤ 9223372036854775807) (HRead : Hid (∀ W : World, Mem W W.heap.size A zs → Calls Try.prog 17 #[.slice A N c] W fun e w' => e = .returned (.tuple #[.int .i64 p, .int .i64 r, .int .i64 k]) ∧ Below W.heap.size W w')) :
    Calls Try.prog 6 #[.int .i64 pre, .int .i64 n, .slice A N c] w fun e w' => e = .returned (.bool true) ∧ Below w.heap.size w w' := by
  go_enter Try.func6, Try.ntmps6
  go_wp2_with (first
    | (go_at_call 5; refine (known_law _).mono ?_; rintro e w1 ⟨rfl, hb1⟩; have HB1 := hid hb1; clear hb1)
    | (go_at_call 7; refine (xlay_of HZ.out HLS.out.1 _).mono ?_; rintro e w2 ⟨A2, c2, rfl, hb2, hr2, hm2, _, _⟩; have HB2 := hid (HB1.out.trans (hb2.mono HB1.out.size)); have HM2 := hid hm2; clear hb2 hr2 hm2; have HXW := hid (HX.out.below HB2.out))
    | (go_at_call 11; refine (bits_any _ _).mono ?_; rintro e w5 ⟨rfl, rfl⟩)
    | (go_at_call 17; refine (HRead.out _ ((HX.out.below HB2.out).mono HB2.out.size)).mono ?_; rintro e w8 ⟨rfl, hb8⟩; have HB8 := hid (HB2.out.trans (hb8.mono HB2.out.size)); clear hb8)
    | (go_at_call 20; refine (lays_yes p r (zs.take k) HRL.out.1 HRL.out.2.1 _ k c (take_len HRL.out.2.2.2) _ (((HX.out.below HB8.out).mono HB8.out.size).take k)).mono ?_; rintro e w9 ⟨rfl, hb9⟩; have HB9 := hid (HB8.out.trans (hb9.mono HB8.out.size)); clear hb9))
  go_ret
  exact ⟨rfl, HB9.out⟩
set_option maxHeartbeats 1000000 in
theorem bk_n3 (pre n : Int) (A : Option Addr) (c N : Nat) (zs ls : List Int) (p r : Int) (k : Nat) (w : World) (z : Int) (hz : (z == 0) = false) (hb : ((N : Int) == 0) = true) (g0 : 0 ≤ n) (g1 : n ≤ 15)
    (HX : Hid (Mem w w.heap.size A zs)) (_ : Hid (zs.length = N)) (hl2 : (N : Int) ≤ 20) (HZ : Hid (layE pre n = z)) (HLS : Hid (layB pre n = ls ∧ ls.length ≤ 1000)) (HR : Hid (rexF (bW n) (bR n) (bX n) (bB n) = n))
    (HRL : Hid (layE p r = 0 ∧ layB p r = zs.take k ∧ k ≤ 3 ∧ k ≤ zs.length)) (hk3 : (k : Int) ≤ 3 ∧ (k : Int) ≤ N ∧ (0 : Int) ≤ k) (hc2 : (N : Int) ≤ c ∧ (c : Int) ≤ 9223372036854775807) (HRead : Hid (∀ W : World, Mem W W.heap.size A zs → Calls Try.prog 17 #[.slice A N c] W fun e w' => e = .returned (.tuple #[.int .i64 p, .int .i64 r, .int .i64 k]) ∧ Below W.heap.size W w')) :
    Calls Try.prog 6 #[.int .i64 pre, .int .i64 n, .slice A N c] w fun e w' => e = .returned (.bool true) ∧ Below w.heap.size w w' := by
  go_enter Try.func6, Try.ntmps6
  go_wp2_with (first
    | (go_at_call 5; refine (known_law _).mono ?_; rintro e w1 ⟨rfl, hb1⟩; have HB1 := hid hb1; clear hb1)
    | (go_at_call 7; refine (xlay_of HZ.out HLS.out.1 _).mono ?_; rintro e w2 ⟨A2, c2, rfl, hb2, hr2, hm2, _, _⟩; have HB2 := hid (HB1.out.trans (hb2.mono HB1.out.size)); have HM2 := hid hm2; clear hb2 hr2 hm2; have HXW := hid (HX.out.below HB2.out))
    | (go_at_call 11; refine (bits_any _ _).mono ?_; rintro e w5 ⟨rfl, rfl⟩)
    | (go_at_call 13; refine (rex_of HR.out _).mono ?_; rintro e w5 ⟨rfl, rfl⟩)
    | (go_at_call 17; refine (HRead.out _ ((HX.out.below HB2.out).mono HB2.out.size)).mono ?_; rintro e w8 ⟨rfl, hb8⟩; have HB8 := hid (HB2.out.trans (hb8.mono HB2.out.size)); clear hb8)
    | (go_at_call 20; refine (lays_yes p r (zs.take k) HRL.out.1 HRL.out.2.1 _ k c (take_len HRL.out.2.2.2) _ (((HX.out.below HB8.out).mono HB8.out.size).take k)).mono ?_; rintro e w9 ⟨rfl, hb9⟩; have HB9 := hid (HB8.out.trans (hb9.mono HB8.out.size)); clear hb9))
  go_ret
  exact ⟨rfl, HB9.out⟩
set_option maxHeartbeats 1000000 in
theorem bk_n4 (pre n : Int) (A : Option Addr) (c N : Nat) (zs ls : List Int) (p r : Int) (k : Nat) (w : World) (z : Int) (hz : (z == 0) = false) (hb : ((N : Int) == 0) = true) (g0 : 15 < n)
    (HX : Hid (Mem w w.heap.size A zs)) (_ : Hid (zs.length = N)) (hl2 : (N : Int) ≤ 20) (HZ : Hid (layE pre n = z)) (HLS : Hid (layB pre n = ls ∧ ls.length ≤ 1000))
    (HRL : Hid (layE p r = 0 ∧ layB p r = zs.take k ∧ k ≤ 3 ∧ k ≤ zs.length)) (hk3 : (k : Int) ≤ 3 ∧ (k : Int) ≤ N ∧ (0 : Int) ≤ k) (hc2 : (N : Int) ≤ c ∧ (c : Int) ≤ 9223372036854775807) (HRead : Hid (∀ W : World, Mem W W.heap.size A zs → Calls Try.prog 17 #[.slice A N c] W fun e w' => e = .returned (.tuple #[.int .i64 p, .int .i64 r, .int .i64 k]) ∧ Below W.heap.size W w')) :
    Calls Try.prog 6 #[.int .i64 pre, .int .i64 n, .slice A N c] w fun e w' => e = .returned (.bool true) ∧ Below w.heap.size w w' := by
  go_enter Try.func6, Try.ntmps6
  go_wp2_with (first
    | (go_at_call 5; refine (known_law _).mono ?_; rintro e w1 ⟨rfl, hb1⟩; have HB1 := hid hb1; clear hb1)
    | (go_at_call 7; refine (xlay_of HZ.out HLS.out.1 _).mono ?_; rintro e w2 ⟨A2, c2, rfl, hb2, hr2, hm2, _, _⟩; have HB2 := hid (HB1.out.trans (hb2.mono HB1.out.size)); have HM2 := hid hm2; clear hb2 hr2 hm2; have HXW := hid (HX.out.below HB2.out))
    | (go_at_call 11; refine (bits_any _ _).mono ?_; rintro e w5 ⟨rfl, rfl⟩)
    | (go_at_call 17; refine (HRead.out _ ((HX.out.below HB2.out).mono HB2.out.size)).mono ?_; rintro e w8 ⟨rfl, hb8⟩; have HB8 := hid (HB2.out.trans (hb8.mono HB2.out.size)); clear hb8)
    | (go_at_call 20; refine (lays_yes p r (zs.take k) HRL.out.1 HRL.out.2.1 _ k c (take_len HRL.out.2.2.2) _ (((HX.out.below HB8.out).mono HB8.out.size).take k)).mono ?_; rintro e w9 ⟨rfl, hb9⟩; have HB9 := hid (HB8.out.trans (hb9.mono HB8.out.size)); clear hb9))
  go_ret
  exact ⟨rfl, HB9.out⟩
end Go.Proofs.Ytgioggpehlhbfaa
