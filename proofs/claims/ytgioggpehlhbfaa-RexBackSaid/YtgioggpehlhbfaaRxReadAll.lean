/-
  Read of the program: both answers are one.
-/
import Derived.Test.YtgioggpehlhbfaaRxRead
namespace Go.Proofs.Ytgioggpehlhbfaa
open Go.RowKit
set_option maxRecDepth 100000

theorem rread_any (A : Option Addr) (m c : Nat) (zs : List Int) (hm : zs.length = m) (w : World) (B : Nat) (h : Mem w B A zs) :
    Calls Try.prog 18 #[.slice A m c] w fun e w' => e = .returned (.tuple #[.int .i64 (rdP zs), .int .i64 (rdR zs), .int .i64 (rdN zs)]) ∧ w = w' := by
  subst hm
  rcases h.2 with rfl | ⟨q, off, rfl, _, hc⟩
  · exact rread_0 A c w
  · match zs, h.1, hc with
    | [], _, _ => exact rread_0 _ c w
    | [x], hb, hc => exact rread_1 q off c x w (by simpa using hc 0 (by simp)) (hb x (by simp))
    | [x, y], hb, hc => exact rread_2 q off c x y w (by simpa using hc 0 (by simp)) (by simpa using hc 1 (by simp)) (hb x (by simp)) (hb y (by simp))
    | x :: y :: z :: r, hb, hc => exact rread_3 q off c x y z r w (by simpa using hc 0 (by simp)) (by simpa using hc 1 (by simp)) (by simpa using hc 2 (by simp)) (hb x (by simp)) (hb y (by simp)) (hb z (by simp))
/-- By the first one of bytes that are left. -/
def lookL (ps bs : List Int) : List Int → Int
  | [] => 0
  | y :: _ => lookF y ps bs
def rexL : List Int → Int
  | [] => -1
  | y :: _ => rexZ y
theorem pread_of (a b n : Nat) (ps bs : List Int) (hp : ps.length = n) (hbn : bs.length = n) (hn : n ≤ 2) (A : Option Addr) (m c : Nat) (ys : List Int) (hm : ys.length = m) (w : World) (B : Nat) (hB : B ≤ w.heap.size)
    (ha : Nums w B a ps) (hb : Mem w B (some ⟨b, 0, none⟩) bs) (hy : Mem w w.heap.size A ys) (x : Int) (hx : lookL ps bs ys = x) :
    Calls Try.prog 28 #[.agg #[SL a n, SL b n], .slice A m c] w fun e w' => e = .returned (.int .i64 x) ∧ Below w.heap.size w w' := by
  subst hm hx
  rcases hy.2 with rfl | ⟨q, off, rfl, hq, hc⟩
  · exact pread_no A c a b n w
  · match ys, hc with
    | [], _ => exact pread_no _ c a b n w
    | y :: r, hc => exact pread_yes a b n ps bs hp hbn hn q off _ c y (by simp) w B hB ha hb (by simpa using hc 0 (by simp)) hq
theorem read_of (A : Option Addr) (m c : Nat) (ys : List Int) (hm : ys.length = m) (w : World) (B : Nat) (hy : Mem w B A ys) (x : Int) (hx : rexL ys = x) :
    Calls Try.prog 29 #[.slice A m c] w fun e w' => e = .returned (.int .i64 x) ∧ w = w' := by
  subst hm hx
  rcases hy.2 with rfl | ⟨q, off, rfl, hq, hc⟩
  · exact read_no A c w
  · match ys, hy.1, hc with
    | [], _, _ => exact read_no _ c w
    | y :: r, hb, hc => exact read_yes q off _ c y (by simp) w (by simpa using hc 0 (by simp)) (hb y (by simp))
theorem index_2 (a b c d : Value) (w : World) :
    (Instr.index 44 (.agg #[a, b, c, d]) (.int .i64 0)).run Try.prog w = .ok (.agg #[a, b]) w ∧
    (Instr.index 44 (.agg #[a, b, c, d]) (.int .i64 1)).run Try.prog w = .ok (.agg #[c, d]) w := ⟨by kernel_rfl, by kernel_rfl⟩
theorem is_bytes {zs : List Int} (h : zs.all (fun z => decide (0 ≤ z) && decide (z < 256)) = true) : isBytes zs := fun z hz => by simpa using List.all_eq_true.1 h z hz
theorem Own.nums {w wx : World} {l : List Blk} {b : Nat} {t : TypeId} (ps : List Int) (h : Own w l wx) (hx : ⟨b, (ps.map (Value.int .i64)).toArray, t⟩ ∈ l) : Nums wx wx.heap.size b ps :=
  ⟨h.lt hx, fun i hi => by rw [cell_of_row _ _ _ _ _ _ (h.2.1 _ hx).2]; simp [hi]⟩
theorem Own.bytes {w wx : World} {l : List Blk} {b : Nat} (zs : List Int) (hz : isBytes zs) (h : Own w l wx) (hx : ⟨b, (zs.map (Value.int .u8)).toArray, 5⟩ ∈ l) : Mem wx wx.heap.size (some ⟨b, 0, none⟩) zs :=
  ByB.mem (t := 5) (h.2.1 _ hx).2 hz (h.lt hx)
/-- The table of places, and the bytes, in a world. -/
structure Places (g : Nat) (A : Option Addr) (zs : List Int) (w : World) : Prop where
  n1 : Nums w w.heap.size (g + 1) [1]
  b1 : Mem w w.heap.size (some ⟨g + 1 + 1, 0, none⟩) [102]
  n2 : Nums w w.heap.size (g + 1 + 1 + 1) [2, 4]
  b2 : Mem w w.heap.size (some ⟨g + 1 + 1 + 1 + 1, 0, none⟩) [242, 243]
  zs : Mem w w.heap.size A zs
theorem Nums.mono {w : World} {B B' a : Nat} {ps : List Int} (h : Nums w B a ps) (hB : B ≤ B') : Nums w B' a ps := ⟨by have := h.1; omega, h.2⟩
theorem Places.below {g : Nat} {A : Option Addr} {zs : List Int} {w w' : World} (h : Places g A zs w) (hb : Below w.heap.size w w') : Places g A zs w' :=
  ⟨(h.n1.below hb).mono hb.size, (h.b1.below hb).mono hb.size, (h.n2.below hb).mono hb.size, (h.b2.below hb).mono hb.size, (h.zs.below hb).mono hb.size⟩
/-- What the first place has. -/
theorem look_1 (zs : List Int) : lookL [1] [102] zs = k1 zs := by
  unfold k1 at_
  rcases zs with _ | ⟨z, r⟩
  · simp [lookL]
  · simp only [lookL, lookF, List.getElem?_cons_zero, Option.getD_some]
    by_cases h : z = 102
    · subst h; rfl
    · rw [if_neg (fun e => h e.symm), if_neg h]; rfl
/-- What the second one has. -/
theorem look_2 (zs : List Int) (k : Nat) : lookL [2, 4] [242, 243] (zs.drop k) = two (at_ zs k) := by
  unfold two at_
  rcases h : zs.drop k with _ | ⟨z, r⟩
  · have : zs[k]? = none := by rw [← List.head?_drop, h]; rfl
    simp [lookL, this]
  · have : zs[k]? = some z := by rw [← List.head?_drop, h]; rfl
    simp only [this, lookL, lookF, Option.getD_some]
    by_cases h1 : z = 242
    · subst h1; rfl
    · by_cases h2 : z = 243
      · subst h2; rfl
      · rw [if_neg (fun e => h1 e.symm), if_neg (fun e => h2 e.symm), if_neg h1, if_neg h2]
theorem look_3 (zs : List Int) (k : Nat) : rexL (zs.drop k) = rexZ (at_ zs k) := by
  unfold at_
  rcases h : zs.drop k with _ | ⟨z, r⟩
  · have : zs[k]? = none := by rw [← List.head?_drop, h]; rfl
    simp [rexL, this, rexZ]
  · have : zs[k]? = some z := by rw [← List.head?_drop, h]; rfl
    simp only [this, rexL, Option.getD_some]
theorem Mem.drop {w : World} {B q off : Nat} {zs : List Int} (h : Mem w B (some ⟨q, off, none⟩) zs) (j : Nat) : Mem w B (some ⟨q, off + j, none⟩) (zs.drop j) := by
  refine ⟨h.1.drop j, ?_⟩
  rcases h.2 with rfl | ⟨b, o, e, hb, hc⟩
  · left; simp
  · injection e with e
    injection e with e1 e2
    subst e1 e2
    refine .inr ⟨_, _, rfl, hb, fun i hi => ?_⟩
    rw [List.length_drop] at hi
    rw [Nat.add_assoc, hc (j + i) (by omega), List.getElem?_drop]
theorem Mem.cut {w : World} {B q off c : Nat} {zs : List Int} (h : Mem w B (some ⟨q, off, none⟩) zs) (hc : zs.length ≤ c) (j : Nat) : Mem w B (if c = j then some ⟨q, off, none⟩ else some ⟨q, off + j, none⟩) (zs.drop j) := by
  split
  · rw [List.drop_eq_nil_iff.2 (by omega)]; exact Mem.nil _ _ _
  · exact h.drop j
theorem k1_le (zs : List Int) : k1 zs ≤ zs.length ∧ k1 zs ≤ 1 := by
  unfold k1 at_
  rcases zs with _ | ⟨z, r⟩
  · simp
  · simp; split <;> simp
theorem k2_le (zs : List Int) : k2 zs ≤ zs.length ∧ k2 zs ≤ 2 := by
  have h := k1_le zs
  unfold k2
  split
  · omega
  · rename_i h2
    refine ⟨?_, by omega⟩
    rcases Nat.lt_or_ge (k1 zs) zs.length with h3 | h3
    · omega
    · exfalso
      apply h2
      unfold at_
      rw [List.getElem?_eq_none h3]
      decide
set_option maxHeartbeats 1000000 in
theorem xread_some (q off m c : Nat) (zs : List Int) (hm : zs.length = m) (hmc : m ≤ c) (hcl : c ≤ 9223372036854775807) (w : World) (hx : Mem w w.heap.size (some ⟨q, off, none⟩) zs) :
    Calls Try.prog 17 #[.slice (some ⟨q, off, none⟩) m c] w fun e w' => e = .returned (.tuple #[.int .i64 (rdP zs), .int .i64 (rdR zs), .int .i64 (rdN zs)]) ∧ Below w.heap.size w w' := by
  have HX := hid hx
  have HM := hid hm
  have i0 := (index_2 (SL (w.heap.size + 1) 1) (SL (w.heap.size + 1 + 1) 1) (SL (w.heap.size + 1 + 1 + 1) 2) (SL (w.heap.size + 1 + 1 + 1 + 1) 2))
  have l0 : (0 : Int) ≤ m ∧ (m : Int) ≤ c ∧ (c : Int) ≤ 9223372036854775807 := by omega
  have HC := hid (show zs.length ≤ c by omega)
  clear hx hm
  go_enter Try.func17, Try.ntmps17
  go_wp2_with (go_at_call 25; refine (places_any _).mono ?_; rintro e w1 ⟨rfl, HO⟩)
  have HP := hid (show Places w.heap.size (some ⟨q, off, none⟩) zs w1 from ⟨HO.out.nums (t := 3) [1] (by simp), HO.out.bytes [102] (is_bytes (by decide)) (by simp), HO.out.nums (t := 3) [2, 4] (by simp), HO.out.bytes [242, 243] (is_bytes (by decide)) (by simp), (HX.out.below HO.out.below).mono HO.out.below.size⟩)
  have HB := hid HO.out.below
  clear HO HX
  go_loopw [5, 6, 12] (fun p s i wr => (i = .int .i64 0 ∧ p = .int .i64 0 ∧ s = .int .i64 0 ∧ w1 = wr) ∨ (∃ j : Nat, i = .int .i64 1 ∧ p = .int .i64 (j : Int) ∧ s = .int .i64 (j : Int) ∧ Hid (k1 zs = j ∧ Below w1.heap.size w1 wr)) ∨
    (∃ p' : Int, ∃ j : Nat, i = .int .i64 2 ∧ p = .int .i64 p' ∧ s = .int .i64 (j : Int) ∧ Hid (rdP zs = p' ∧ k2 zs = j ∧ Below w1.heap.size w1 wr))) (fun _ _ i _ => 2 - (intOf i).toNat)
  case atStart => exact .inl ⟨rfl, rfl, rfl, rfl⟩
  case round =>
    rcases hrel with ⟨rfl, rfl, rfl, rfl⟩ | ⟨j, rfl, rfl, rfl, HR⟩ | ⟨p', j, rfl, rfl, rfl, HR⟩
    · have e0 := (i0 w1).1
      have hj : k1 zs = 0 ∨ k1 zs = 1 := by have := (k1_le zs).2; omega
      rcases hj with hj | hj
      all_goals
        have HJ := hid hj
        have HL := hid (look_1 zs)
        rw [hj] at HL
        clear hj
        go_wp2
        have HB1 := hid ((Below.refl w1.heap.size w1).alloc (Nat.le_refl _) (.cells #[SL (w.heap.size + 1) 1, SL (w.heap.size + 1 + 1) 1] 43))
        have HQ := hid (HP.out.below HB1.out)
        have c0 := (Own.alloc (Own.nil w1) w1.heap.size #[SL (w.heap.size + 1) 1, SL (w.heap.size + 1 + 1) 1] 43 rfl).c
        generalize w1.alloc (.cells #[SL (w.heap.size + 1) 1, SL (w.heap.size + 1 + 1) 1] 43) = W at *
        have z0 : w1.heap.size < W.heap.size := World.block_lt_of_cell? W _ (c0 0)
        have hS := Old.of (Below.refl W.heap.size W)
        go_region_held3 (fun w' => Below W.heap.size W w' ∧ ∀ b o, b < W.heap.size → w'.cell? ⟨b, o, none⟩ = W.cell? ⟨b, o, none⟩) (first | with_reducible assumption | exact old_drew ‹_› | (with_reducible refine old_kept ?_ (by assumption); with_reducible assumption)) ((go_at_call 28; (have HQ2 := hid (HQ.out.below (‹Below W.heap.size W _ ∧ _›).1)); (with_reducible refine (pread_of (w.heap.size + 1) (w.heap.size + 1 + 1) 1 [1] [102] rfl rfl (by decide) _ m c zs HM.out _ _ (Nat.le_refl _) HQ2.out.n1 HQ2.out.b1 HQ2.out.zs _ HL.out).mono ?_); rintro e w5 ⟨rfl, hbel⟩))
        have hK := (‹Below W.heap.size W _ ∧ _›).1
        have HK := hid (HB1.out.trans (hK.mono (by omega)))
        clear hK hS c0
        go_wp2
        go_roundw
        case rel => exact .inr (.inl ⟨_, rfl, rfl, rfl, hid ⟨HJ.out, HK.out⟩⟩)
        case measure => simp [intOf]
    · have e1 := (i0 wr).2
      have hj := k1_le zs
      rw [HR.out.1, HM.out] at hj
      have hj1 : (j : Int) ≤ m ∧ (j : Int) ≤ 1 := by omega
      have HBR := hid HR.out.2
      have hz := HR.out.2.size
      have HJ := hid HR.out.1
      have HD := hid (show (zs.drop j).length = m - j by rw [List.length_drop, HM.out])
      have HL := hid (look_2 zs j)
      have hx : two (at_ zs j) = 0 ∨ two (at_ zs j) = 2 ∨ two (at_ zs j) = 4 := by unfold two; split <;> (try split) <;> simp
      clear hj HR
      by_cases hcj : c = j
      all_goals (try subst hcj)
      all_goals rcases hx with hx | hx | hx
      all_goals
        have HX := hid hx
        rw [hx] at HL
        clear hx
        go_wp2
        have HB1 := hid ((Below.refl wr.heap.size wr).alloc (Nat.le_refl _) (.cells #[SL (w.heap.size + 1 + 1 + 1) 2, SL (w.heap.size + 1 + 1 + 1 + 1) 2] 43))
        have HQ := hid ((HP.out.below HBR.out).below HB1.out)
        have c0 := (Own.alloc (Own.nil wr) wr.heap.size #[SL (w.heap.size + 1 + 1 + 1) 2, SL (w.heap.size + 1 + 1 + 1 + 1) 2] 43 rfl).c
        generalize wr.alloc (.cells #[SL (w.heap.size + 1 + 1 + 1) 2, SL (w.heap.size + 1 + 1 + 1 + 1) 2] 43) = W at *
        have z0 : wr.heap.size < W.heap.size := World.block_lt_of_cell? W _ (c0 0)
        have hS := Old.of (Below.refl W.heap.size W)
        go_region_held3 (fun w' => Below W.heap.size W w' ∧ ∀ b o, b < W.heap.size → w'.cell? ⟨b, o, none⟩ = W.cell? ⟨b, o, none⟩) (first | with_reducible assumption | exact old_drew ‹_› | (with_reducible refine old_kept ?_ (by assumption); with_reducible assumption)) (first | (go_at_call 28; (have HQ2 := hid (HQ.out.below (‹Below W.heap.size W _ ∧ _›).1)); (have hm3 := HQ2.out.zs.cut HC.out j); (rw [if_neg hcj] at hm3); (with_reducible refine (pread_of (w.heap.size + 1 + 1 + 1) (w.heap.size + 1 + 1 + 1 + 1) 2 [2, 4] [242, 243] rfl rfl (by decide) _ _ _ _ HD.out _ _ (Nat.le_refl _) HQ2.out.n2 HQ2.out.b2 hm3 _ HL.out).mono ?_); rintro e w5 ⟨rfl, hbel⟩) | (go_at_call 28; (have HQ2 := hid (HQ.out.below (‹Below W.heap.size W _ ∧ _›).1)); (with_reducible refine (pread_of (w.heap.size + 1 + 1 + 1) (w.heap.size + 1 + 1 + 1 + 1) 2 [2, 4] [242, 243] rfl rfl (by decide) _ 0 0 [] rfl _ _ (Nat.le_refl _) HQ2.out.n2 HQ2.out.b2 (Mem.nil _ _ _) _ ((congrArg (lookL [2, 4] [242, 243]) (List.drop_eq_nil_iff.2 HC.out)).symm.trans HL.out)).mono ?_); rintro e w5 ⟨rfl, hbel⟩))
        have hK := (‹Below W.heap.size W _ ∧ _›).1
        have HK := hid (HBR.out.trans ((HB1.out.trans (hK.mono (by omega))).mono (by omega)))
        clear hK hS c0
        go_wp2
        go_roundw
        case rel => exact .inr (.inr ⟨_, _, by go_num, rfl, by go_num, hid ⟨by unfold rdP; rw [HJ.out, HX.out]; try omega, by unfold k2; rw [HJ.out, HX.out]; rfl, HK.out⟩⟩)
        case measure => simp [intOf]
    · have hj := k2_le zs
      rw [HR.out.2.1, HM.out] at hj
      have hj1 : (j : Int) ≤ m ∧ (j : Int) ≤ 2 := by omega
      have HBR := hid HR.out.2.2
      have HQ := hid (HP.out.below HR.out.2.2)
      have HD := hid (show (zs.drop j).length = m - j by rw [List.length_drop, HM.out])
      have HJ := hid HR.out.2.1
      have HPR := hid HR.out.1
      have HL := hid (look_3 zs j)
      clear hj HR
      have hx : rexZ (at_ zs j) = -1 ∨ ¬ rexZ (at_ zs j) = -1 := by omega
      generalize hg : rexZ (at_ zs j) = x at HL hx
      have HX := hid (show rdR zs = x by unfold rdR; rw [HJ.out, hg])
      clear hg
      by_cases hcj : c = j
      all_goals (try subst hcj)
      all_goals rcases hx with rfl | hx
      case' pos.inl | neg.inl => have HN := hid (show rdN zs = _ by unfold rdN; rw [HX.out, if_pos rfl, HJ.out])
      case' pos.inr | neg.inr => (have HN := hid (show rdN zs = _ by unfold rdN; rw [HX.out, if_neg hx, HJ.out]); have hx2 : (x != -1) = true := by simpa using hx)
      all_goals
        go_wp2_with (first | (go_at_call 29; (with_reducible refine (read_of _ _ _ _ HD.out _ _ (by have h := HQ.out.zs.cut HC.out j; rw [if_neg hcj] at h; exact h) _ HL.out).mono ?_); rintro e w5 ⟨rfl, rfl⟩) | (go_at_call 29; (with_reducible refine (read_of _ 0 0 [] rfl _ _ (Mem.nil _ wr.heap.size _) _ ((congrArg rexL (List.drop_eq_nil_iff.2 HC.out)).symm.trans HL.out)).mono ?_); rintro e w5 ⟨rfl, rfl⟩))
        go_ret3
        exact ⟨ret3 HPR.out.symm HX.out.symm (by rw [HN.out]; try omega), HB.out.trans (HBR.out.mono HB.out.size)⟩
set_option maxHeartbeats 1000000 in
theorem xread_nil (A : Option Addr) (c : Nat) (hcl : c ≤ 9223372036854775807) (w : World) :
    Calls Try.prog 17 #[.slice A 0 c] w fun e w' => e = .returned (.tuple #[.int .i64 (rdP []), .int .i64 (rdR []), .int .i64 (rdN [])]) ∧ Below w.heap.size w w' := by
  have i0 := (index_2 (SL (w.heap.size + 1) 1) (SL (w.heap.size + 1 + 1) 1) (SL (w.heap.size + 1 + 1 + 1) 2) (SL (w.heap.size + 1 + 1 + 1 + 1) 2))
  have l0 : (0 : Int) ≤ c ∧ (c : Int) ≤ 9223372036854775807 := by omega
  go_enter Try.func17, Try.ntmps17
  go_wp2_with (go_at_call 25; refine (places_any _).mono ?_; rintro e w1 ⟨rfl, HO⟩)
  have HP := hid (show Places w.heap.size none [] w1 from ⟨HO.out.nums (t := 3) [1] (by simp), HO.out.bytes [102] (is_bytes (by decide)) (by simp), HO.out.nums (t := 3) [2, 4] (by simp), HO.out.bytes [242, 243] (is_bytes (by decide)) (by simp), Mem.nil _ _ _⟩)
  have HB := hid HO.out.below
  clear HO
  go_loopw [5, 6, 12] (fun p s i wr => ∃ k : Nat, k ≤ 2 ∧ i = .int .i64 k ∧ p = .int .i64 0 ∧ s = .int .i64 0 ∧ Hid (Below w1.heap.size w1 wr)) (fun _ _ i _ => 2 - (intOf i).toNat)
  case atStart => exact ⟨0, by omega, rfl, rfl, rfl, hid (Below.refl _ _)⟩
  case round =>
    obtain ⟨k, hk, rfl, rfl, rfl, HBR⟩ := hrel
    have hk3 : k = 0 ∨ k = 1 ∨ k = 2 := by omega
    clear hk
    rcases hk3 with rfl | rfl | rfl
    · have e1 := (i0 wr).1
      have hz := HBR.out.size
      go_wp2
      have HB1 := hid ((Below.refl wr.heap.size wr).alloc (Nat.le_refl _) (.cells #[SL (w.heap.size + 1) 1, SL (w.heap.size + 1 + 1) 1] 43))
      have HQ := hid ((HP.out.below HBR.out).below HB1.out)
      have c0 := (Own.alloc (Own.nil wr) wr.heap.size #[SL (w.heap.size + 1) 1, SL (w.heap.size + 1 + 1) 1] 43 rfl).c
      generalize wr.alloc (.cells #[SL (w.heap.size + 1) 1, SL (w.heap.size + 1 + 1) 1] 43) = W at *
      have z0 : wr.heap.size < W.heap.size := World.block_lt_of_cell? W _ (c0 0)
      have hS := Old.of (Below.refl W.heap.size W)
      go_region_held3 (fun w' => Below W.heap.size W w' ∧ ∀ b o, b < W.heap.size → w'.cell? ⟨b, o, none⟩ = W.cell? ⟨b, o, none⟩) (first | with_reducible assumption | exact old_drew ‹_› | (with_reducible refine old_kept ?_ (by assumption); with_reducible assumption)) ((go_at_call 28; (have HQ2 := hid (HQ.out.below (‹Below W.heap.size W _ ∧ _›).1)); (with_reducible refine (pread_of (w.heap.size + 1) (w.heap.size + 1 + 1) 1 [1] [102] rfl rfl (by decide) _ 0 _ [] rfl _ _ (Nat.le_refl _) HQ2.out.n1 HQ2.out.b1 (Mem.nil _ _ _) _ rfl).mono ?_); rintro e w5 ⟨rfl, hbel⟩))
      have hK := (‹Below W.heap.size W _ ∧ _›).1
      have HK := hid (HBR.out.trans ((HB1.out.trans (hK.mono (by omega))).mono (by omega)))
      clear hK hS c0
      go_wp2
      go_roundw
      case rel => exact ⟨1, by omega, by go_num, rfl, rfl, HK⟩
      case measure => simp [intOf]
    · have e1 := (i0 wr).2
      have hz := HBR.out.size
      go_wp2
      have HB1 := hid ((Below.refl wr.heap.size wr).alloc (Nat.le_refl _) (.cells #[SL (w.heap.size + 1 + 1 + 1) 2, SL (w.heap.size + 1 + 1 + 1 + 1) 2] 43))
      have HQ := hid ((HP.out.below HBR.out).below HB1.out)
      have c0 := (Own.alloc (Own.nil wr) wr.heap.size #[SL (w.heap.size + 1 + 1 + 1) 2, SL (w.heap.size + 1 + 1 + 1 + 1) 2] 43 rfl).c
      generalize wr.alloc (.cells #[SL (w.heap.size + 1 + 1 + 1) 2, SL (w.heap.size + 1 + 1 + 1 + 1) 2] 43) = W at *
      have z0 : wr.heap.size < W.heap.size := World.block_lt_of_cell? W _ (c0 0)
      have hS := Old.of (Below.refl W.heap.size W)
      go_region_held3 (fun w' => Below W.heap.size W w' ∧ ∀ b o, b < W.heap.size → w'.cell? ⟨b, o, none⟩ = W.cell? ⟨b, o, none⟩) (first | with_reducible assumption | exact old_drew ‹_› | (with_reducible refine old_kept ?_ (by assumption); with_reducible assumption)) ((go_at_call 28; (have HQ2 := hid (HQ.out.below (‹Below W.heap.size W _ ∧ _›).1)); (with_reducible refine (pread_of (w.heap.size + 1 + 1 + 1) (w.heap.size + 1 + 1 + 1 + 1) 2 [2, 4] [242, 243] rfl rfl (by decide) _ 0 _ [] rfl _ _ (Nat.le_refl _) HQ2.out.n2 HQ2.out.b2 (Mem.nil _ _ _) _ rfl).mono ?_); rintro e w5 ⟨rfl, hbel⟩))
      have hK := (‹Below W.heap.size W _ ∧ _›).1
      have HK := hid (HBR.out.trans ((HB1.out.trans (hK.mono (by omega))).mono (by omega)))
      clear hK hS c0
      go_wp2
      go_roundw
      case rel => exact ⟨2, by omega, by go_num, rfl, rfl, HK⟩
      case measure => simp [intOf]
    · go_wp2_with (go_at_call 29; (with_reducible refine (read_of _ 0 _ [] rfl _ _ (Mem.nil _ wr.heap.size _) _ rfl).mono ?_); rintro e w5 ⟨rfl, rfl⟩)
      go_ret3
      exact ⟨rfl, HB.out.trans (HBR.out.mono HB.out.size)⟩
theorem xread_any (A : Option Addr) (m c : Nat) (zs : List Int) (hm : zs.length = m) (hmc : m ≤ c) (hcl : c ≤ 9223372036854775807) (w : World) (hx : Mem w w.heap.size A zs) :
    Calls Try.prog 17 #[.slice A m c] w fun e w' => e = .returned (.tuple #[.int .i64 (rdP zs), .int .i64 (rdR zs), .int .i64 (rdN zs)]) ∧ Below w.heap.size w w' := by
  rcases hx.2 with rfl | ⟨q, off, rfl, _, _⟩
  · subst hm; exact xread_nil A c hcl w
  · exact xread_some q off m c zs hm hmc hcl w hx
end Go.Proofs.Ytgioggpehlhbfaa
