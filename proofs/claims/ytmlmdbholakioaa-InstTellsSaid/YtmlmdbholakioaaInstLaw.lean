/-
  What the statements on instructions share: operands, instructions, their canon; awake.
-/
import Derived.Test.YtmlmdbholakioaaInstKit
import Derived.Test.YtmlmdbholakioaaInstRefSpell
namespace Go.Proofs.Ytmlmdbholakioaa
open Go.RowKit

theorem lr_any (c n : Int) (w : World) :
    Calls Try.prog 20 #[.int .i64 c, .int .i64 n] w fun e w' => e = .returned (AV ⟨1, c, n, ⟨0, 0, 0, 0, 0, 0, 0⟩, 0⟩) ∧ Below w.heap.size w w' := by
  go_enter Try.func20, Try.ntmps20
  go_wp2_with (with_reducible change bodyPost _ _ _ Exit.ret _ _; refine bodyPost_ret (v := AV ⟨1, c, n, ⟨0, 0, 0, 0, 0, 0, 0⟩, 0⟩) (by simp [results, Try.results20, go_sem]) rfl ⟨rfl, ?_⟩; go_grown)
theorem ln_any (n : Int) (w : World) :
    Calls Try.prog 23 #[.int .i64 n] w fun e w' => e = .returned (AV ⟨3, 0, 0, ⟨0, 0, 0, 0, 0, 0, 0⟩, n⟩) ∧ Below w.heap.size w w' := by
  go_enter Try.func23, Try.ntmps23
  go_wp2_with (with_reducible change bodyPost _ _ _ Exit.ret _ _; refine bodyPost_ret (v := AV ⟨3, 0, 0, ⟨0, 0, 0, 0, 0, 0, 0⟩, n⟩) (by simp [results, Try.results23, go_sem]) rfl ⟨rfl, ?_⟩; go_grown)
theorem lm_any (k : Int) (w : World) :
    Calls Try.prog 24 #[.int .i64 k] w fun e w' => e = .returned (AV ⟨2, 0, 0, ⟨5, k, 0, 0, 0, 0, 0⟩, 0⟩) ∧ Below w.heap.size w w' := by
  go_enter Try.func24, Try.ntmps24
  go_wp2_with (with_reducible change bodyPost _ _ _ Exit.ret _ _; refine bodyPost_ret (v := AV ⟨2, 0, 0, ⟨5, k, 0, 0, 0, 0, 0⟩, 0⟩) (by simp [results, Try.results24, go_sem]) rfl ⟨rfl, ?_⟩; go_grown)
theorem lof_any (op : Int) (A : Option Addr) (n c : Nat) (w : World) :
    Calls Try.prog 22 #[.int .i64 op, .slice A n c] w fun e w' => e = .returned (.agg #[.int .i64 op, .slice A n c]) ∧ Below w.heap.size w w' := by
  go_enter Try.func22, Try.ntmps22
  go_wp2_with (with_reducible change bodyPost _ _ _ Exit.ret _ _; refine bodyPost_ret (v := .agg #[.int .i64 op, .slice A n c]) (by simp [results, Try.results22, go_sem]) rfl ⟨rfl, ?_⟩; go_grown)
/-- Has an instruction this canon? -/
def lcanF (op : Int) (l : List Ar) (op' : Int) (l' : List Ar) : Bool := (instF op l == 0) && ((canonOp op l == op') && eqL (canonL op l) l')
set_option maxHeartbeats 1000000 in
theorem lcanon_any {op op' : Int} {A A' : Option Addr} {n n' c c' : Nat} {l l' : List Ar} {v : Bool} (hv : lcanF op l op' l' = v) (hn : l.length = n) (hn' : l'.length = n') (h9 : n ≤ 9) (hf : Fine l) (w : World) (hA : Args w w.heap.size A l) (hA' : Args w w.heap.size A' l') :
    Calls Try.prog 21 #[.agg #[.int .i64 op, .slice A n c], .agg #[.int .i64 op', .slice A' n' c']] w fun e w' => e = .returned (.bool v) ∧ Below w.heap.size w w' := by
  subst hn hn'
  have hT := two_alloc w (.cells #[.int .i64 op, .slice A l.length c] 24) (.cells #[.int .i64 op', .slice A' l'.length c'] 24)
  have HA := hid (hA.call hT)
  have HA' := hid (hA'.call hT)
  have HF := hid hf
  have HO := hid (((Own.nil w).alloc w.heap.size #[.int .i64 op, .slice A l.length c] 24 rfl).alloc (w.heap.size + 1) #[.int .i64 op', .slice A' l'.length c'] 24 (by simp))
  have h4 := canonL_length op l
  obtain ⟨e1, he1⟩ : ∃ e1, instF op l = e1 := ⟨_, rfl⟩
  obtain ⟨o1, ho1⟩ : ∃ o1, canonOp op l = o1 := ⟨_, rfl⟩
  obtain ⟨L1, hL1⟩ : ∃ L1, canonL op l = L1 := ⟨_, rfl⟩
  have HV := hid (show ((e1 == 0) && ((o1 == op') && eqL L1 l')) = v by rw [← hv, lcanF, he1, ho1, hL1])
  have HE1 := hid he1; have HO1 := hid ho1; have HL1 := hid hL1
  rw [hL1] at h4
  clear hA hA' hT hf hv he1 ho1 hL1
  go_enter Try.func21, Try.ntmps21
  go_wp2_with fail
  refine (inst_canon_any h9 HF.out _ HA.out).mono ?_
  rw [HO1.out, HL1.out, HE1.out]
  rintro e w1 ⟨A1, c1, rfl, hb1, hA1⟩
  have HO := hid (HO.out.call hb1)
  have HX := hid (hA1.args.call ((Below.refl _ _).alloc (Nat.le_refl _) (.cells #[.int .i64 o1, .slice A1 L1.length c1] 24)))
  have HY := hid ((HA'.out.call hb1).call ((Below.refl _ _).alloc (Nat.le_refl _) (.cells #[.int .i64 o1, .slice A1 L1.length c1] 24)))
  have HB := hid (HO.out.below.alloc HO.out.below.size (.cells #[.int .i64 o1, .slice A1 L1.length c1] 24))
  clear hb1 hA1
  have c0 := HO.out.c
  have z0 := HO.out.z
  by_cases h1 : e1 = 0
  · subst h1
    obtain ⟨vv, hvv⟩ : ∃ vv, ((o1 == op') && eqL L1 l') = vv := ⟨_, rfl⟩
    have HVV := hid hvv
    have HR := hid (show vv = v by rw [← HV.out, ← hvv]; rfl)
    clear hvv
    go_wp2_with fail
    refine (sameInst_of HVV.out rfl rfl (by omega) _ HX.out HY.out).mono ?_
    rintro e w3 ⟨rfl, hb3⟩
    have HB := hid (HB.out.trans (hb3.mono HB.out.size))
    clear hb3
    go_wp2_with fail
    go_ret
    exact ⟨ret_b HR.out, HB.out⟩
  · have hx : (e1 == 0) = false := beq_eq_false_iff_ne.2 h1
    have HR := hid (show false = v by rw [← HV.out, hx]; rfl)
    clear h1
    go_wp2_with fail
    go_ret
    exact ⟨ret_b HR.out, HB.out⟩
theorem check_at {op e' : Int} {A : Option Addr} {n c : Nat} {l : List Ar} (he : instF op l = e') (hn : l.length = n) (h9 : n ≤ 9) (hf : Fine l) (w : World) (hA : Args w w.heap.size A l) :
    Calls Try.prog 12 #[.agg #[.int .i64 op, .slice A n c]] w fun e w' => e = .returned (.int .i64 e') ∧ Below w.heap.size w w' := by
  subst hn he; exact inst_check h9 hf w hA
theorem bits_at {op x : Int} {s : Bool} {A : Option Addr} {n c : Nat} {l : List Ar} (h : bitsF op l = (x, s)) (hn : l.length = n) (hf : Fine l) (w : World) (hA : Args w w.heap.size A l) :
    Calls Try.prog 10 #[.agg #[.int .i64 op, .slice A n c]] w fun e w' => e = .returned (.tuple #[.int .i64 x, .bool s]) ∧ Below w.heap.size w w' := by
  subst hn; exact bits_of h hf w hA
theorem same_at {op op' : Int} {A A' : Option Addr} {n n' c c' : Nat} {l l' : List Ar} {v : Bool} (hv : sameI op l op' l' = v) (hn : l.length = n) (hn' : l'.length = n') (hl : n ≤ 9) (hl' : n' ≤ 9) (hf : Fine l) (hf' : Fine l') (w : World) (hA : Args w w.heap.size A l) (hA' : Args w w.heap.size A' l') :
    Calls Try.prog 15 #[.agg #[.int .i64 op, .slice A n c], .agg #[.int .i64 op', .slice A' n' c']] w fun e w' => e = .returned (.bool v) ∧ Below w.heap.size w w' := by
  subst hn hn' hv; exact isame_any hl hl' hf hf' w hA hA'
/-! ### rows that are made in place -/
theorem Args.alloc {w : World} {A : Option Addr} {l : List Ar} (h : Args w w.heap.size A l) (o : Obj) : Args (w.alloc o) (w.alloc o).heap.size A l := h.call ((Below.refl _ _).alloc (Nat.le_refl _) o)
theorem Args.drew {w : World} {A : Option Addr} {l : List Ar} (h : Args w w.heap.size A l) : Args w.drew w.drew.heap.size A l := h
theorem Args.made {w : World} {l : List Ar} {cs : Array Value} {g : Nat} (h : cs = (cellsA l).toArray) (hg : g = w.heap.size) : Args (w.alloc (.cells cs 42)) (w.alloc (.cells cs 42)).heap.size (some ⟨g, 0, none⟩) l := (OwnA.made (base := 0) h hg (Nat.zero_le _)).args
theorem fine_cons {a : Ar} {l : List Ar} (h : I64 a.m.s ∧ I64 a.n) (hl : Fine l) : Fine (a :: l) := fun x hx => by
  rcases List.mem_cons.1 hx with rfl | hx
  · exact h
  · exact hl x hx
theorem fine_nil : Fine [] := fun _ h => by cases h
abbrev R1 (c n : Int) : Ar := ⟨1, c, n, ⟨0, 0, 0, 0, 0, 0, 0⟩, 0⟩
abbrev N1 (n : Int) : Ar := ⟨3, 0, 0, ⟨0, 0, 0, 0, 0, 0, 0⟩, n⟩
abbrev M1 (k : Int) : Ar := ⟨2, 0, 0, ⟨5, k, 0, 0, 0, 0, 0⟩, 0⟩
end Go.Proofs.Ytmlmdbholakioaa
