/-
  The three displacements: how each is laid, and read.
-/
import Derived.Test.YtiiepdgpnnjpiaaDoorHeadsAll
import Derived.Test.YtiiepdgpnnjpiaaDoorFPut
import Derived.Test.YtiiepdgpnnjpiaaDoorFCur
import Derived.Laws.EntriesVeiled
namespace Go.Proofs.YtiiepdgpnnjpiaaDoor
open Go.RowKit
set_option maxRecDepth 100000

/-- A block of one cell, known whole. -/
def One (b : Nat) (v : Value) (t : TypeId) (W : World) : Prop := W.heap[b]? = some (.cells #[v] t (0, 0))
theorem One.cell {b : Nat} {v : Value} {t : TypeId} {W : World} (h : One b v t W) : W.cell? ⟨b, 0, none⟩ = some v := by simp [World.cell?, show W.heap[b]? = _ from h]
theorem One.frozen {b : Nat} {v : Value} {t : TypeId} {W : World} (h : One b v t W) : W.frozen? ⟨b, 0, none⟩ = false := by simp [World.frozen?, show W.heap[b]? = _ from h]
theorem One.lt {b : Nat} {v : Value} {t : TypeId} {W : World} (h : One b v t W) : b < W.heap.size := (Array.getElem?_eq_some_iff.1 h).1
theorem One.same {b : Nat} {v : Value} {t : TypeId} {A B : World} (h : One b v t A) (he : B.heap[b]? = A.heap[b]?) : One b v t B := he.trans h
theorem One.set {b : Nat} {v : Value} {t : TypeId} {W : World} (h : One b v t W) (u : Value) : One b u t (W.setCell ⟨b, 0, none⟩ u) := heap_setCell_same _ _ _ _ _ _ h
theorem One.below {b : Nat} {v : Value} {t : TypeId} {A B : World} (h : One b v t A) (hb : Below A.heap.size A B) : One b v t B := h.same (hb.block b h.lt)
theorem One.alloc {b : Nat} {v : Value} {t : TypeId} {w : World} (h : One b v t w) (o : Obj) : One b v t (w.alloc o) := h.same (Below.heap_alloc w o b h.lt)
theorem one_box (w : World) (v : Value) (t : TypeId) {b : Nat} (h : b = w.heap.size) : One b v t (w.alloc (.cells #[v] t)) := by subst h; exact heap_alloc_new w _

theorem lay0_any (d low : Int) (w : World) :
    Calls Tryd.prog 82 #[.int .i64 d, .int .i64 low] w fun e w' => e = .returned (.tuple #[.slice none 0 0, .bool (d == 0 && low != 5)]) ∧ w = w' := by
  by_cases h : d = 0
  · subst h
    go_enter Tryd.func82, Tryd.ntmps82
    go_wp2
    go_ret2
    exact ⟨by simp, rfl⟩
  · have hd : (d == 0) = false := by simpa using h
    go_enter Tryd.func82, Tryd.ntmps82
    go_wp2
    go_ret2
    exact ⟨by simp [hd], rfl⟩
theorem read0_any (p : Value) (w : World) :
    Calls Tryd.prog 83 #[p] w fun e w' => e = .returned (.int .i64 0) ∧ w = w' := by
  go_enter Tryd.func83, Tryd.ntmps83
  go_wp2
  go_ret
  exact ⟨rfl, rfl⟩
theorem layN_yes (a s : Nat) (d low : Int) (hd : I64 d) (hs : s = 1 ∨ s = 4) (hf : fitsB d (8 * s) = true) (w : World) (ha : One a (.int .i64 s) 3 w) :
    Calls Tryd.prog 93 #[.int .i64 d, .int .i64 low, .pointer (some ⟨a, 0, none⟩)] w fun e w' => e = .returned (.tuple #[.slice (some ⟨w.heap.size, 0, none⟩) s s, .bool true]) ∧ Below w.heap.size w w' ∧ ByB w' w.heap.size 5 (bytesOf d s) := by
  have hc := ha.cell
  have HD := hid hd
  have HF := hid hf
  have hso : sizeOk (s : Int) = true := by rcases hs with rfl | rfl <;> rfl
  have hb : (0 : Int) ≤ s ∧ (s : Int) ≤ 4 := by omega
  have hw : IntKind.i64.wrap (8 * (s : Int)) = 8 * (s : Int) := IntWalk.i64_in _ (by omega)
  have HS := hid hso
  have HW := hid (fits_wide hf)
  clear ha hs hd hf hso
  go_enter Tryd.func93, Tryd.ntmps93
  go_wp2_with (first | (go_at_call 94; refine (fits_any _ _ _).mono ?_; rw [HF.out]; rintro e w1 ⟨rfl, rfl⟩) | (go_at_call 95; refine (put_ok d s _ HD.out HS.out HW.out).mono ?_; rintro e w2 ⟨rfl, hb2, hk2⟩; have HB := hid hb2; have HK := hid hk2; clear hb2 hk2))
  go_ret2
  exact ⟨rfl, HB.out, HK.out⟩
theorem layN_no (a s : Nat) (d low : Int) (hd : I64 d) (hs : s = 1 ∨ s = 4) (hf : fitsB d (8 * s) = false) (w : World) (ha : One a (.int .i64 s) 3 w) :
    Calls Tryd.prog 93 #[.int .i64 d, .int .i64 low, .pointer (some ⟨a, 0, none⟩)] w fun e w' => e = .returned (.tuple #[.slice none 0 0, .bool false]) ∧ w = w' := by
  have hc := ha.cell
  have HD := hid hd
  have HF := hid hf
  have hb : (0 : Int) ≤ s ∧ (s : Int) ≤ 4 := by omega
  have hw : IntKind.i64.wrap (8 * (s : Int)) = 8 * (s : Int) := IntWalk.i64_in _ (by omega)
  clear ha hs hd hf
  go_enter Tryd.func93, Tryd.ntmps93
  go_wp2_with (go_at_call 94; refine (fits_any _ _ _).mono ?_; rw [HF.out]; rintro e w1 ⟨rfl, rfl⟩)
  go_ret2
  exact ⟨rfl, rfl⟩
theorem msized_any (s : Int) (w : World) :
    Calls Tryd.prog 84 #[.int .i64 s] w fun e w' => e = .returned (.agg #[.func (.func 93) #[] #[.pointer (some ⟨w.heap.size, 0, none⟩)], .func (.func 96) #[] #[.pointer (some ⟨w.heap.size, 0, none⟩)]]) ∧ Below w.heap.size w w' ∧ One w.heap.size (.int .i64 s) 3 w' := by
  have hmf : ∀ (fn : Fn) (first cap : Array Value) (w : World), (Instr.makeFunc fn first cap).run Tryd.prog w = .ok (.func fn first cap) w := fun _ _ _ _ => rfl
  go_enter Tryd.func84, Tryd.ntmps84
  go_wp2
  refine bodyPost_ret (v := .agg #[.func (.func 93) #[] #[.pointer (some ⟨w.heap.size, 0, none⟩)], .func (.func 96) #[] #[.pointer (some ⟨w.heap.size, 0, none⟩)]]) (by simp [results, Tryd.results84, go_sem, *]) rfl ⟨rfl, by go_grown, ?_⟩
  exact (one_box w _ _ rfl).alloc _
/-- The three displacements in memory: their block, the boxes of the numbers of bytes. -/
structure Three (W : World) (g a b : Nat) (w : World) : Prop where
  kg : w.heap[g]? = some (.cells #[.func (.func 82) #[] #[], .func (.func 83) #[] #[], .func (.func 93) #[] #[.pointer (some ⟨a, 0, none⟩)], .func (.func 96) #[] #[.pointer (some ⟨a, 0, none⟩)], .func (.func 93) #[] #[.pointer (some ⟨b, 0, none⟩)], .func (.func 96) #[] #[.pointer (some ⟨b, 0, none⟩)]] 111 (0, 0))
  ka : One a (.int .i64 1) 3 w
  kb : One b (.int .i64 4) 3 w
  ge : W.heap.size ≤ g ∧ W.heap.size ≤ a ∧ W.heap.size ≤ b
theorem Three.lt {W w : World} {g a b : Nat} (h : Three W g a b w) : g < w.heap.size := (Array.getElem?_eq_some_iff.1 h.kg).1
theorem Three.same {W w w' : World} {g a b : Nat} (h : Three W g a b w) (h1 : w'.heap[g]? = w.heap[g]?) (h2 : w'.heap[a]? = w.heap[a]?) (h3 : w'.heap[b]? = w.heap[b]?) : Three W g a b w' :=
  ⟨h1.trans h.kg, h.ka.same h2, h.kb.same h3, h.ge⟩
theorem Three.below {W w w' : World} {g a b : Nat} (h : Three W g a b w) (hb : Below w.heap.size w w') : Three W g a b w' :=
  h.same (hb.block _ h.lt) (hb.block _ h.ka.lt) (hb.block _ h.kb.lt)
theorem disps_any (w : World) :
    Calls Tryd.prog 71 #[] w fun e w' => ∃ g a b : Nat, e = .returned (.slice (some ⟨g, 0, none⟩) 3 3) ∧ Below w.heap.size w w' ∧ Three w g a b w' := by
  have HO := hid ((Own.nil w).alloc w.heap.size #[.func (.func 82) #[] #[], .func (.func 83) #[] #[]] 111 rfl)
  go_enter Tryd.func71, Tryd.ntmps71
  go_wp2_with fail
  generalize w.alloc (.cells #[.func (.func 82) #[] #[], .func (.func 83) #[] #[]] 111) = W at *
  have c0 := HO.out.c
  have z0 := HO.out.z
  have hS := old_drew (Old.of (Below.refl W.heap.size W))
  go_region_held3 (fun w' => Below W.heap.size W w' ∧ ∀ b o, b < W.heap.size → w'.cell? ⟨b, o, none⟩ = W.cell? ⟨b, o, none⟩) (first | with_reducible assumption | (with_reducible refine old_kept ?_ (by assumption); with_reducible assumption) | (refine old_alloc ?_ _; with_reducible assumption)) (first | (go_at_call 84; (with_reducible refine (msized_any 1 _).mono ?_); rintro e w1 ⟨rfl, hb1, h1⟩; have H1 := hid h1; clear h1) | (go_at_call 84; (with_reducible refine (msized_any 4 _).mono ?_); rintro e w2 ⟨rfl, hb2, h2⟩; have H2 := hid h2; clear h2))
  go_wp2
  go_ret
  have hW := HO.out.below
  have hz := HO.out.below.size
  have hs1 := hb1.size
  have hs2 := hb2.size
  simp only [World.size_drew] at hs1
  have hB1 : Below W.heap.size W w1 := (Below.refl _ _).drew.trans hb1
  have hB2 : Below W.heap.size W w2 := hB1.trans (hb2.mono hs1)
  refine ⟨w2.heap.size, W.heap.size, w1.heap.size, rfl, hW.trans ((hB2.alloc (by omega) _).mono hz), ⟨heap_alloc_new w2 _, ?_, H2.out.alloc _, by omega, hz, by omega⟩⟩
  exact (H1.out.below hb2).alloc _
end Go.Proofs.YtiiepdgpnnjpiaaDoor
