/-
  KeptBytes, CopyBytes, append: what was lent is as it was; a copy.
-/
import Derived.Test.YtllnjmpakkodnaaFKit
import Derived.Deep.RegionHeld3
namespace Go.Proofs.Ytllnjmpakkodnaa
open Go.RowKit

set_option maxRecDepth 100000
/-- What stays while a statement runs: old memory, a list that was lent. -/
def KS (w : World) (g B : Nat) (zs : List Int) (A : Option Addr) (xs : List Int) (w' : World) : Prop := Below w.heap.size w w' ∧ ByB w' g 5 zs ∧ Mem w' B A xs
theorem KS.drew {w : World} {g B : Nat} {zs : List Int} {A : Option Addr} {xs : List Int} {w' : World} (h : KS w g B zs A xs w') : KS w g B zs A xs w'.drew := ⟨h.1.drew, h.2.1, h.2.2.keep fun _ _ => rfl⟩
theorem KS.below {w : World} {g B : Nat} {zs : List Int} {A : Option Addr} {xs : List Int} {w' w'' : World} (h : KS w g B zs A xs w') (hb : Below w'.heap.size w' w'') (hg : g < w.heap.size) (hB : B ≤ w.heap.size) : KS w g B zs A xs w'' :=
  have hs := h.1.size
  ⟨h.1.trans (hb.mono hs), h.2.1.below hb (by omega), (h.2.2.keep fun p hp => hb.cell (by omega))⟩
/-- A list that was lent, with the room behind it, of which one knows what stands there. -/
theorem keptb_any (g : Nat) (A : Option Addr) (c : Nat) (xs zs : List Int) (w : World) (B : Nat) (hg : ByB w g 5 zs) (hz : isBytes zs) (hzl : zs.length = xs.length + 3) (hx : Mem w B A xs) (hl : xs.length ≤ 100000000) (hB : B ≤ w.heap.size) :
    Calls Try.prog 18 #[.slice (some ⟨g, 0, none⟩) xs.length (xs.length + 3), .slice A xs.length c] w fun e w' =>
      e = .returned (.bool (decide (zs = lent xs))) ∧ Below w.heap.size w w' := by
  have hgl := hg.lt
  have hS : KS w g B zs A xs w := ⟨Below.refl _ _, hg, hx⟩
  have HZ := hid hz
  have HZL := hid hzl
  have HL := hid hl
  clear hg hx hz hzl
  have e1 : (xs.length : Int) ≤ 100000000 := by omega
  have e2 : (0 : Int) ≤ (xs.length : Int) + 3 := by omega
  have e3 : (xs.length : Int) + 3 ≤ ((xs.length + 3 : Nat) : Int) := by omega
  have e4 : IntKind.i64.wrap ((xs.length : Int) + 3) = (xs.length : Int) + 3 := IntWalk.i64_in _ (by omega)
  go_enter Try.func18, Try.ntmps18
  go_wp2
  go_region_held3 (fun w' => KS w g B zs A xs w') (first | assumption | exact KS.drew ‹_› | (refine KS.below ?_ (by assumption) hgl hB; assumption))
    (first | (go_at_call 15; refine (lent_any A c xs _ B ?_ HL.out ?_).mono ?_; exact (‹KS w g B zs A xs _›).2.2; exact hB; rintro e w1 ⟨rfl, hbel, hblk⟩) | (go_at_call 13; refine (same_of _ _ _ _ _ _ zs (lent xs) _ ?_ ?_ HZL.out (lent_length xs)).mono ?_; exact ⟨_, (‹KS w g B zs A xs _›).2.1.mem HZ.out (Nat.lt_succ_self g)⟩; exact ⟨_, hblk.mem (lent_bytes (‹KS w g B zs A xs _›).2.2.1) (Nat.lt_succ_self _)⟩; rintro e w2 ⟨rfl, rfl⟩))
  go_wp2
  go_ret
  exact ⟨rfl, (‹KS w g B zs A xs _›).1⟩
/-! ### a copy -/
/-- A row of the call's own that holds the bytes zs (a word of its own, so that the walk leaves it as it stands). -/
def OwnB (w : World) (base : Nat) (v : Value) (n : Nat) (zs : List Int) : Prop := w.ownsRow base 5 1 v n (zs.map (Value.int .u8))
/-- append of bytes that are somewhere, nil too, onto a row of the call's own. -/
theorem wpList_append_bytes {w : World} {ops : Array Oper} {rest : List Oper} {o : Oper} {a : Act} {Q : Exit → Act → World → Prop} (hgd : o.guard = none) (s x : Operand)
    (ho : o.op = .call { callee := .builtin .append, args := #[s, x], argTypes := #[31, 31] })
    (base : Nat) (v : Value) (n : Nat) (xs : List Int) (hs : a.eval s = v) (hown : w.ownsRow base 5 1 v n (xs.map (Value.int .u8)))
    (A : Option Addr) (m c B : Nat) (ys : List Int) (hm : ys.length = m) (hx : a.eval x = .slice A m c) (hy : Mem w B A ys) (hb : n + m ≤ 100000000000) (hbase : base ≤ w.heap.size)
    (h : ∀ v' w', Hid (OwnB w' base v' (n + m) (xs ++ ys)) → w.grownBy w' v.ownBlock → wpList Try.prog ops Q rest (a.put o.dst v') w') : wpList Try.prog ops Q (o :: rest) a w := by
  subst hm
  obtain ⟨i0, hi, hz0, hz1, hz2⟩ := info_parts infoByte
  obtain ⟨_, hy⟩ := hy
  rcases A with _ | ad
  · have : ys = [] := by
      rcases hy with h0 | ⟨_, _, h0, _⟩
      · exact h0
      · cases h0
    subst this
    have hrun : (Builtin.append_ #[31, 31] o.type #[v, .slice none 0 c]).run Try.prog w = .ok v w := by
      rcases hown.2 with ⟨rfl, rfl⟩ | ⟨g, cap, cur, rfl, _, _, hnc, _⟩
      · simp [Builtin.append_, run_underlying Try.underlying31, sizeOf, typeInfo, hi, Builtin.lenOf, Builtin.firstCells]
      · simp [Builtin.append_, run_underlying Try.underlying31, sizeOf, typeInfo, hi, Builtin.lenOf, Builtin.firstCells, hnc, storeCells]
    refine wpList_plain hgd fun K hK => ?_
    unfold Oper.wp
    simp [execOp, ho, resolve, invoke, builtin, hs, hx, hrun, Result.andThen]
    exact hK _ _ (h v w (hid (by unfold OwnB; simpa using hown)) (World.grownBy.refl w _))
  · refine wpList_append_own _ hgd s x 31 ho base 5 i0 (.int .u8 0) 1 1 Try.underlying31 hi hz0 hz1 hz2 rfl (by decide) v n _ hs hown ad ys.length c (ys.map (Value.int .u8)) hx (by simp) ?_ (fun v hv => by obtain ⟨z, _, rfl⟩ := List.mem_map.1 hv; rfl) (by unfold maxLen; omega) (by omega) hbase ?_
    · intro j u hu
      rcases hy with rfl | ⟨b, off, h0, _, hc⟩
      · simp at hu
      · injection h0 with h0
        subst h0
        have hadd : (⟨b, off, none⟩ : Addr).add j = ⟨b, off + j, none⟩ := by unfold Addr.add; split <;> simp_all
        rw [hadd]
        rw [List.getElem?_map] at hu
        rcases Nat.lt_or_ge j ys.length with hl | hl
        · rw [hc j hl, ← hu]; simp [hl]
        · rw [List.getElem?_eq_none hl] at hu; cases hu
    · intro v' w' h1 h2 _
      exact h v' w' (hid (by unfold OwnB; rw [List.map_append]; exact h1)) h2
theorem copyb_any (A : Option Addr) (c : Nat) (xs : List Int) (w : World) (B : Nat) (hx : Mem w B A xs) (hl : xs.length ≤ 100000000) (hB : B ≤ w.heap.size) :
    Calls Try.prog 21 #[.slice A xs.length c] w fun e w' =>
      ∃ v, e = .returned v ∧ Below w.heap.size w w' ∧ w'.ownsRow w.heap.size 5 1 v xs.length (xs.map (Value.int .u8)) := by
  have HX := hid hx
  clear hx
  go_enter Try.func21, Try.ntmps21
  go_wp2_with (at_builtin; refine wpList_append_bytes rfl _ _ rfl w.heap.size _ 0 [] rfl ?c1 A xs.length c w.heap.size xs rfl rfl ?c2 ?c3 ?c4 ?_)
  case c1 => exact World.ownsRow_lit _ _ 0 (Nat.le_refl _) (by simp [maxLen]) rfl
  case c2 => exact (HX.out.mono hB).keep fun p hp => World.cell?_alloc_lt w _ p hp
  case c3 => omega
  case c4 => simp
  intro v w1 hown hgrow
  go_wp2
  go_ret
  exact ⟨v, rfl, ((Below.refl _ _).alloc (Nat.le_refl _) _).grown hgrow (by simp) (fun k hk => by simp [Value.ownBlock] at hk; omega), by have := hown.out; unfold OwnB at this; simpa using this⟩
end Go.Proofs.Ytllnjmpakkodnaa
