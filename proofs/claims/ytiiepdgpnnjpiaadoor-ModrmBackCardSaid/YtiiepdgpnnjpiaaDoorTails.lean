/-
  The iterator over the displacements that may stand behind a head.
-/
import Derived.Test.YtiiepdgpnnjpiaaDoorDisp
import Derived.Test.YtiiepdgpnnjpiaaDoorRf
import Derived.Laws.EntriesVeiled
namespace Go.Proofs.YtiiepdgpnnjpiaaDoor
open Go.RowKit
attribute [local go_sem] Oper.semAt_some
set_option maxRecDepth 100000

/-- What a round of the program's loop keeps: all that the iterator made (no block of which is of the type that is collected). -/
def Free (A : World) (k : Nat) : Prop := ∀ (cs : Array Value) (f : Nat × Nat), A.heap[k]? ≠ some (Obj.cells cs 34 f)
structure Keeps (B : Nat) (A C : World) : Prop where
  size : A.heap.size ≤ C.heap.size
  block : ∀ k, B ≤ k → k < A.heap.size → Free A k → C.heap[k]? = A.heap[k]?
theorem Free.same {A C : World} {k : Nat} (h : Free A k) (e : C.heap[k]? = A.heap[k]?) : Free C k := fun cs f hq => h cs f (e.symm.trans hq)
theorem Free.of {A : World} {k : Nat} {o : Obj} (h : A.heap[k]? = some o) (ho : ∀ (cs : Array Value) (f : Nat × Nat), o ≠ Obj.cells cs 34 f) : Free A k := fun cs f hq => ho cs f (Option.some.inj (h.symm.trans hq))
theorem Free.cells {A : World} {k : Nat} {cs : Array Value} {t : TypeId} {f : Nat × Nat} (h : A.heap[k]? = some (Obj.cells cs t f)) (ht : t ≠ 34) : Free A k := Free.of h (fun _ _ e => by injection e with _ e2 _; exact ht e2)
/-- The displacements of the first k ways. -/
def upto (al : Bool) (base d : Int) (k : Nat) : List (Int × List Int) :=
  if al then (if k < 3 then [] else [(0, bytesOf d 4)]) else (if k < 1 then [] else if d = 0 ∧ ¬ base = 5 then [(0, [])] else []) ++ (if k < 2 then [] else if fitsB d 8 then [(1, bytesOf d 1)] else []) ++ (if k < 3 then [] else [(2, bytesOf d 4)])
theorem upto_all (al : Bool) (base d : Int) : upto al base d 3 = tailsF al base d := by
  unfold upto tailsF
  simp
theorem Three.kept {W A C : World} {g a b : Nat} (h : Three W g a b A) (hk : Keeps W.heap.size A C) : Three W g a b C :=
  h.same (hk.block _ h.ge.1 h.lt (Free.cells h.kg (by decide))) (hk.block _ h.ge.2.1 h.ka.lt (Free.cells h.ka (by decide))) (hk.block _ h.ge.2.2 h.kb.lt (Free.cells h.kb (by decide)))
theorem fits32 {d : Int} (h : D32 d) : fitsB d (8 * ((4 : Nat) : Int)) = true := by
  have e : (2 : Int) ^ ((8 * ((4 : Nat) : Int)).toNat - 1) = 2147483648 := by decide +kernel
  rw [fits_in (by omega), e]
  unfold D32 at h
  omega
set_option maxHeartbeats 1000000 in
theorem tails_any (m l bd bh : Nat) (al : Bool) (base d : Int) (hd : D32 d) (J : Nat → World → Prop) (W : World)
    (hJ : ∀ k A C, J k A → Below A.heap.size A C → J k C)
    (hcap : ∀ k A, J k A → A.cell? ⟨bd, 0, none⟩ = some (.int .i64 d) ∧ A.cell? ⟨bh, 4, none⟩ = some (.int .i64 base) ∧ A.cell? ⟨bh, 5, none⟩ = some (.bool al))
    (hY : ∀ k t (P : Option Addr) (n c : Nat) (A : World), (tailsF al base d)[k]? = some t → J k A → t.2.length = n → Mem A A.heap.size P t.2 → YieldAt Fence.wide m Tryd.prog l #[.agg #[.int .i64 t.1, .slice P n c]] A fun e C =>
      e = .returned (.bool true) ∧ J (k + 1) C ∧ Keeps W.heap.size A C)
    (h0 : J 0 W) :
    Calls Tryd.prog 70 #[.func (.yield l) #[] #[], .pointer (some ⟨bd, 0, none⟩), .pointer (some ⟨bh, 0, none⟩)] W fun e C => (∃ v, e = .returned v) ∧ J (tailsF al base d).length C := by
  refine (callsIn_wide (n := m + 1)).1 ?_
  refine callsIn_of_wp Tryd.func70 rfl trivial ?_ rfl
  simp only [Tryd.ntmps70, List.size_toArray, List.length_cons, List.length_nil, Nat.reduceAdd, Nat.reduceSub, Array.replicate_succ, Array.replicate_zero, List.push_toArray, List.append_toArray, List.nil_append, List.cons_append]
  have H0 := hid h0
  clear h0
  gi_wp2_with (refine ⟨trivial, ?_⟩; gi_at_call 71; refine (callsIn_wide.2 (disps_any _)).mono ?_; rintro e w1 ⟨g, a, b, rfl, hb1, h3⟩; have HJ := hid (hJ _ _ _ H0.out hb1); have H3 := hid h3; clear h3 H0; have hz1 := hb1.size; clear hb1)
  gi_loopw [10] (fun i wr => ∃ k : Nat, k ≤ 3 ∧ i = .int .i64 k ∧ W.heap.size ≤ wr.heap.size ∧ Hid (J (upto al base d k).length wr ∧ Three W g a b wr)) (fun i _ => 3 - (intOf i).toNat)
  case atStart => exact ⟨0, by omega, rfl, hz1, hid ⟨by simpa [upto] using HJ.out, H3.out⟩⟩
  case round =>
    obtain ⟨k, hk, rfl, hz, H⟩ := hrel
    have hkk : k = 0 ∨ k = 1 ∨ k = 2 ∨ k = 3 := by omega
    clear hk HJ H3 hz1
    have hI := hid (show I64 d by unfold D32 at hd; unfold I64; omega)
    obtain ⟨hc0, hc1, hc2⟩ := hcap _ _ H.out.1
    have hg0 := fun j => cell_of_row _ _ j _ _ _ H.out.2.kg
    have l0 : bd < wr.heap.size := World.block_lt_of_cell? wr _ hc0
    have l1 : bh < wr.heap.size := World.block_lt_of_cell? wr _ hc1
    have l2 : g < wr.heap.size := H.out.2.lt
    rcases hkk with rfl | rfl | rfl | rfl
    · cases al with
      | true =>
        have HA := hid (H.out.2.below ((Below.refl _ _).alloc (Nat.le_refl _) (.cells #[.func (.func 82) #[] #[], .func (.func 83) #[] #[]] 111)))
        have HJ1 := hid (hJ _ _ (wr.alloc (.cells #[.func (.func 82) #[] #[], .func (.func 83) #[] #[]] 111)) H.out.1 (((Below.refl _ _).alloc (Nat.le_refl _) _)))
        have hzA : W.heap.size ≤ (wr.alloc (.cells #[.func (.func 82) #[] #[], .func (.func 83) #[] #[]] 111)).heap.size := by rw [World.size_alloc]; omega
        have HL := hid (show (upto true base d 0).length = (upto true base d 1).length by simp [upto])
        gi_wp2_with (refine ⟨trivial, ?_⟩; gi_at_call 82; refine (callsIn_wide.2 (lay0_any _ _ _)).mono ?_; rintro e w1 ⟨rfl, rfl⟩)
        go_roundw
        case rel => exact ⟨1, by omega, rfl, hzA, hid ⟨by rw [← HL.out]; exact HJ1.out, HA.out⟩⟩
        case measure => simp [intOf]
      | false =>
        cases hm : (d == 0 && base != 5) with
        | true =>
          have hm' : d = 0 ∧ ¬ base = 5 := by simpa using hm
          have hal : True := trivial
          have HA := hid (H.out.2.below ((Below.refl _ _).alloc (Nat.le_refl _) (.cells #[.func (.func 82) #[] #[], .func (.func 83) #[] #[]] 111)))
          have HJ1 := hid (hJ _ _ (wr.alloc (.cells #[.func (.func 82) #[] #[], .func (.func 83) #[] #[]] 111)) H.out.1 (((Below.refl _ _).alloc (Nat.le_refl _) _)))
          have hzA : W.heap.size ≤ (wr.alloc (.cells #[.func (.func 82) #[] #[], .func (.func 83) #[] #[]] 111)).heap.size := by rw [World.size_alloc]; omega
          have hat : (tailsF false base d)[(upto false base d 0).length]? = some ((0 : Int), ([] : List Int)) := by simp [upto, tailsF, hm']
          have HL := hid (show (upto false base d 0).length + 1 = (upto false base d 1).length by simp [upto, hm'])
          obtain ⟨fn, tmps, assign, body, hy, hR⟩ := hY _ ((0 : Int), ([] : List Int)) none 0 0 _ hat HJ1.out rfl (Mem.nil _ _ _)
          dsimp only at hy
          clear hat hal hm' H
          gi_wp2_with (refine ⟨trivial, ?_⟩; gi_at_call 82; refine (callsIn_wide.2 (lay0_any _ _ _)).mono ?_; rintro e w1 ⟨rfl, rfl⟩)
          refine hR.mono ?_
          rintro e C ⟨rfl, hj3, hk3⟩
          have HR := hid (show W.heap.size ≤ C.heap.size ∧ J (upto false base d 1).length C ∧ Three W g a b C from ⟨Nat.le_trans hzA hk3.size, by rw [← HL.out]; exact hj3, HA.out.kept hk3⟩)
          clear hj3 hk3 hy hR
          gi_wp2
          go_roundw
          case rel => exact ⟨1, by omega, rfl, HR.out.1, hid HR.out.2⟩
          case measure => simp [intOf]
        | false =>
          have hm' : ¬ (d = 0 ∧ ¬ base = 5) := by intro h; simp [h.1, h.2] at hm
          have HA := hid (H.out.2.below ((Below.refl _ _).alloc (Nat.le_refl _) (.cells #[.func (.func 82) #[] #[], .func (.func 83) #[] #[]] 111)))
          have HJ1 := hid (hJ _ _ (wr.alloc (.cells #[.func (.func 82) #[] #[], .func (.func 83) #[] #[]] 111)) H.out.1 (((Below.refl _ _).alloc (Nat.le_refl _) _)))
          have hzA : W.heap.size ≤ (wr.alloc (.cells #[.func (.func 82) #[] #[], .func (.func 83) #[] #[]] 111)).heap.size := by rw [World.size_alloc]; omega
          have HL := hid (show (upto false base d 0).length = (upto false base d 1).length by simp [upto, hm'])
          gi_wp2_with (refine ⟨trivial, ?_⟩; gi_at_call 82; refine (callsIn_wide.2 (lay0_any _ _ _)).mono ?_; rintro e w1 ⟨rfl, rfl⟩)
          go_roundw
          case rel => exact ⟨1, by omega, rfl, hzA, hid ⟨by rw [← HL.out]; exact HJ1.out, HA.out⟩⟩
          case measure => simp [intOf]
    · cases hf : fitsB d 8 with
      | true =>
        have HF := hid (show fitsB d (8 * ((1 : Nat) : Int)) = true from hf)
        cases al with
        | true =>
          have HA := hid (H.out.2.below ((Below.refl _ _).alloc (Nat.le_refl _) (.cells #[.func (.func 93) #[] #[.pointer (some ⟨a, 0, none⟩)], .func (.func 96) #[] #[.pointer (some ⟨a, 0, none⟩)]] 111)))
          have HJ1 := hid (hJ _ _ (wr.alloc (.cells #[.func (.func 93) #[] #[.pointer (some ⟨a, 0, none⟩)], .func (.func 96) #[] #[.pointer (some ⟨a, 0, none⟩)]] 111)) H.out.1 (((Below.refl _ _).alloc (Nat.le_refl _) _)))
          have hzA : W.heap.size ≤ (wr.alloc (.cells #[.func (.func 93) #[] #[.pointer (some ⟨a, 0, none⟩)], .func (.func 96) #[] #[.pointer (some ⟨a, 0, none⟩)]] 111)).heap.size := by rw [World.size_alloc]; omega
          have HL := hid (show (upto true base d 1).length = (upto true base d 2).length by simp [upto])
          gi_wp2_with (refine ⟨trivial, ?_⟩; gi_at_call 93; refine (callsIn_wide.2 (layN_yes a 1 d base hI.out (by omega) HF.out _ HA.out.ka)).mono ?_; rintro e w2 ⟨rfl, hb2, hk2⟩; have HA := hid (HA.out.below hb2); have HJ1 := hid (hJ _ _ _ HJ1.out hb2); have hz2 := Nat.le_trans hzA hb2.size; have hq2 := (hcap _ _ HJ1.out).2.2; clear hb2 hk2)
          go_roundw
          case rel => exact ⟨2, by omega, rfl, hz2, hid ⟨by rw [← HL.out]; exact HJ1.out, HA.out⟩⟩
          case measure => simp [intOf]
        | false =>
          have hal : True := trivial
          have hm : True := trivial
          have hm' : True := trivial
          have HA := hid (H.out.2.below ((Below.refl _ _).alloc (Nat.le_refl _) (.cells #[.func (.func 93) #[] #[.pointer (some ⟨a, 0, none⟩)], .func (.func 96) #[] #[.pointer (some ⟨a, 0, none⟩)]] 111)))
          have HJ1 := hid (hJ _ _ (wr.alloc (.cells #[.func (.func 93) #[] #[.pointer (some ⟨a, 0, none⟩)], .func (.func 96) #[] #[.pointer (some ⟨a, 0, none⟩)]] 111)) H.out.1 (((Below.refl _ _).alloc (Nat.le_refl _) _)))
          have hzA : W.heap.size ≤ (wr.alloc (.cells #[.func (.func 93) #[] #[.pointer (some ⟨a, 0, none⟩)], .func (.func 96) #[] #[.pointer (some ⟨a, 0, none⟩)]] 111)).heap.size := by rw [World.size_alloc]; omega
          have hat : (tailsF false base d)[(upto false base d 1).length]? = some ((1 : Int), (bytesOf d 1 : List Int)) := by simp [upto, tailsF, hf]
          have HL := hid (show (upto false base d 1).length + 1 = (upto false base d 2).length by simp [upto, hf])
          have HT := hid hat
          clear hat hal H hm hm'
          gi_wp2_with (refine ⟨trivial, ?_⟩; gi_at_call 93; refine (callsIn_wide.2 (layN_yes a 1 d base hI.out (by omega) HF.out _ HA.out.ka)).mono ?_; rintro e w2 ⟨rfl, hb2, hk2⟩; have HA := hid (HA.out.below hb2); have HJ1 := hid (hJ _ _ _ HJ1.out hb2); have hz2 := Nat.le_trans hzA hb2.size; have hq2 := (hcap _ _ HJ1.out).2.2; simp only [World.size_alloc] at hk2; obtain ⟨fn, tmps, assign, body, hy, hR⟩ := hY _ ((1 : Int), bytesOf d 1) (some ⟨_, 0, none⟩) 1 1 w2 HT.out HJ1.out (bytesOf_length d 1) (hk2.mem (bytesOf_range d 1) hk2.lt); dsimp only at hy; clear hb2 hk2)
          refine hR.mono ?_
          rintro e C ⟨rfl, hj3, hk3⟩
          have HR := hid (show W.heap.size ≤ C.heap.size ∧ J (upto false base d 2).length C ∧ Three W g a b C from ⟨Nat.le_trans hz2 hk3.size, by rw [← HL.out]; exact hj3, HA.out.kept hk3⟩)
          clear hj3 hk3 hy hR
          gi_wp2
          go_roundw
          case rel => exact ⟨2, by omega, rfl, HR.out.1, hid HR.out.2⟩
          case measure => simp [intOf]
      | false =>
        have HF := hid (show fitsB d (8 * ((1 : Nat) : Int)) = false from hf)
        cases al with
        | true =>
          have HA := hid (H.out.2.below ((Below.refl _ _).alloc (Nat.le_refl _) (.cells #[.func (.func 93) #[] #[.pointer (some ⟨a, 0, none⟩)], .func (.func 96) #[] #[.pointer (some ⟨a, 0, none⟩)]] 111)))
          have HJ1 := hid (hJ _ _ (wr.alloc (.cells #[.func (.func 93) #[] #[.pointer (some ⟨a, 0, none⟩)], .func (.func 96) #[] #[.pointer (some ⟨a, 0, none⟩)]] 111)) H.out.1 (((Below.refl _ _).alloc (Nat.le_refl _) _)))
          have hzA : W.heap.size ≤ (wr.alloc (.cells #[.func (.func 93) #[] #[.pointer (some ⟨a, 0, none⟩)], .func (.func 96) #[] #[.pointer (some ⟨a, 0, none⟩)]] 111)).heap.size := by rw [World.size_alloc]; omega
          have HL := hid (show (upto true base d 1).length = (upto true base d 2).length by simp [upto])
          gi_wp2_with (refine ⟨trivial, ?_⟩; gi_at_call 93; refine (callsIn_wide.2 (layN_no a 1 d base hI.out (by omega) HF.out _ HA.out.ka)).mono ?_; rintro e w2 ⟨rfl, rfl⟩)
          go_roundw
          case rel => exact ⟨2, by omega, rfl, hzA, hid ⟨by rw [← HL.out]; exact HJ1.out, HA.out⟩⟩
          case measure => simp [intOf]
        | false =>
          have HA := hid (H.out.2.below ((Below.refl _ _).alloc (Nat.le_refl _) (.cells #[.func (.func 93) #[] #[.pointer (some ⟨a, 0, none⟩)], .func (.func 96) #[] #[.pointer (some ⟨a, 0, none⟩)]] 111)))
          have HJ1 := hid (hJ _ _ (wr.alloc (.cells #[.func (.func 93) #[] #[.pointer (some ⟨a, 0, none⟩)], .func (.func 96) #[] #[.pointer (some ⟨a, 0, none⟩)]] 111)) H.out.1 (((Below.refl _ _).alloc (Nat.le_refl _) _)))
          have hzA : W.heap.size ≤ (wr.alloc (.cells #[.func (.func 93) #[] #[.pointer (some ⟨a, 0, none⟩)], .func (.func 96) #[] #[.pointer (some ⟨a, 0, none⟩)]] 111)).heap.size := by rw [World.size_alloc]; omega
          have HL := hid (show (upto false base d 1).length = (upto false base d 2).length by simp [upto, hf])
          gi_wp2_with (refine ⟨trivial, ?_⟩; gi_at_call 93; refine (callsIn_wide.2 (layN_no a 1 d base hI.out (by omega) HF.out _ HA.out.ka)).mono ?_; rintro e w2 ⟨rfl, rfl⟩)
          go_roundw
          case rel => exact ⟨2, by omega, rfl, hzA, hid ⟨by rw [← HL.out]; exact HJ1.out, HA.out⟩⟩
          case measure => simp [intOf]
    · have HF := hid (show fitsB d (8 * ((4 : Nat) : Int)) = true from fits32 hd)
      cases al with
      | true =>
        have hal : True := trivial
        have HA := hid (H.out.2.below ((Below.refl _ _).alloc (Nat.le_refl _) (.cells #[.func (.func 93) #[] #[.pointer (some ⟨b, 0, none⟩)], .func (.func 96) #[] #[.pointer (some ⟨b, 0, none⟩)]] 111)))
        have HJ1 := hid (hJ _ _ (wr.alloc (.cells #[.func (.func 93) #[] #[.pointer (some ⟨b, 0, none⟩)], .func (.func 96) #[] #[.pointer (some ⟨b, 0, none⟩)]] 111)) H.out.1 (((Below.refl _ _).alloc (Nat.le_refl _) _)))
        have hzA : W.heap.size ≤ (wr.alloc (.cells #[.func (.func 93) #[] #[.pointer (some ⟨b, 0, none⟩)], .func (.func 96) #[] #[.pointer (some ⟨b, 0, none⟩)]] 111)).heap.size := by rw [World.size_alloc]; omega
        have hat : (tailsF true base d)[(upto true base d 2).length]? = some ((0 : Int), (bytesOf d 4 : List Int)) := by simp [upto, tailsF]
        have HL := hid (show (upto true base d 2).length + 1 = (upto true base d 3).length by simp [upto])
        have HT := hid hat
        clear hat hal H
        gi_wp2_with (refine ⟨trivial, ?_⟩; gi_at_call 93; refine (callsIn_wide.2 (layN_yes b 4 d base hI.out (by omega) HF.out _ HA.out.kb)).mono ?_; rintro e w2 ⟨rfl, hb2, hk2⟩; have HA := hid (HA.out.below hb2); have HJ1 := hid (hJ _ _ _ HJ1.out hb2); have hz2 := Nat.le_trans hzA hb2.size; have hq2 := (hcap _ _ HJ1.out).2.2; simp only [World.size_alloc] at hk2; obtain ⟨fn, tmps, assign, body, hy, hR⟩ := hY _ ((0 : Int), bytesOf d 4) (some ⟨_, 0, none⟩) 4 4 w2 HT.out HJ1.out (bytesOf_length d 4) (hk2.mem (bytesOf_range d 4) hk2.lt); dsimp only at hy; clear hb2 hk2)
        refine hR.mono ?_
        rintro e C ⟨rfl, hj3, hk3⟩
        have HR := hid (show W.heap.size ≤ C.heap.size ∧ J (upto true base d 3).length C ∧ Three W g a b C from ⟨Nat.le_trans hz2 hk3.size, by rw [← HL.out]; exact hj3, HA.out.kept hk3⟩)
        clear hj3 hk3 hy hR
        gi_wp2
        go_roundw
        case rel => exact ⟨3, by omega, rfl, HR.out.1, hid HR.out.2⟩
        case measure => simp [intOf]
      | false =>
        have hal : True := trivial
        have HA := hid (H.out.2.below ((Below.refl _ _).alloc (Nat.le_refl _) (.cells #[.func (.func 93) #[] #[.pointer (some ⟨b, 0, none⟩)], .func (.func 96) #[] #[.pointer (some ⟨b, 0, none⟩)]] 111)))
        have HJ1 := hid (hJ _ _ (wr.alloc (.cells #[.func (.func 93) #[] #[.pointer (some ⟨b, 0, none⟩)], .func (.func 96) #[] #[.pointer (some ⟨b, 0, none⟩)]] 111)) H.out.1 (((Below.refl _ _).alloc (Nat.le_refl _) _)))
        have hzA : W.heap.size ≤ (wr.alloc (.cells #[.func (.func 93) #[] #[.pointer (some ⟨b, 0, none⟩)], .func (.func 96) #[] #[.pointer (some ⟨b, 0, none⟩)]] 111)).heap.size := by rw [World.size_alloc]; omega
        have hat : (tailsF false base d)[(upto false base d 2).length]? = some ((2 : Int), (bytesOf d 4 : List Int)) := by simp [upto, tailsF]
        have HL := hid (show (upto false base d 2).length + 1 = (upto false base d 3).length by simp [upto, Nat.add_assoc])
        have HT := hid hat
        clear hat hal H
        gi_wp2_with (refine ⟨trivial, ?_⟩; gi_at_call 93; refine (callsIn_wide.2 (layN_yes b 4 d base hI.out (by omega) HF.out _ HA.out.kb)).mono ?_; rintro e w2 ⟨rfl, hb2, hk2⟩; have HA := hid (HA.out.below hb2); have HJ1 := hid (hJ _ _ _ HJ1.out hb2); have hz2 := Nat.le_trans hzA hb2.size; have hq2 := (hcap _ _ HJ1.out).2.2; simp only [World.size_alloc] at hk2; obtain ⟨fn, tmps, assign, body, hy, hR⟩ := hY _ ((2 : Int), bytesOf d 4) (some ⟨_, 0, none⟩) 4 4 w2 HT.out HJ1.out (bytesOf_length d 4) (hk2.mem (bytesOf_range d 4) hk2.lt); dsimp only at hy; clear hb2 hk2)
        refine hR.mono ?_
        rintro e C ⟨rfl, hj3, hk3⟩
        have HR := hid (show W.heap.size ≤ C.heap.size ∧ J (upto false base d 3).length C ∧ Three W g a b C from ⟨Nat.le_trans hz2 hk3.size, by rw [← HL.out]; exact hj3, HA.out.kept hk3⟩)
        clear hj3 hk3 hy hR
        gi_wp2
        go_roundw
        case rel => exact ⟨3, by omega, rfl, HR.out.1, hid HR.out.2⟩
        case measure => simp [intOf]
    · have HR := hid H.out.1
      rw [upto_all] at HR
      gi_wp2
      go_end0
      exact ⟨⟨_, rfl⟩, HR.out⟩
end Go.Proofs.YtiiepdgpnnjpiaaDoor
