/-
  The statements' own examples.
-/
import Derived.Test.YtmlmdbholakioaaInstLaw
namespace Go.Proofs.Ytmlmdbholakioaa
open Go.RowKit

theorem bel_call {w w1 w2 : World} (h : Below w.heap.size w w1) (hb : Below w1.heap.size w1 w2) : Below w.heap.size w w2 := h.trans (hb.mono h.size)
theorem bel_alloc {w w1 : World} (h : Below w.heap.size w w1) (o : Obj) : Below w.heap.size w (w1.alloc o) := h.alloc h.size o
theorem bel_drew {w w1 : World} (h : Below w.heap.size w w1) : Below w.heap.size w w1.drew := h.drew
theorem Args.row {w : World} {l : List Ar} {cs : Array Value} {g : Nat} {t : TypeId} (ht : t = 42) (h : cs = (cellsA l).toArray) (hg : g = w.heap.size) : Args (w.alloc (.cells cs t)) (w.alloc (.cells cs t)).heap.size (some ⟨g, 0, none⟩) l := by subst ht; exact Args.made h hg
theorem Args.nil (w : World) (B : Nat) (A : Option Addr) : Args w B A [] := .inl rfl
set_option maxHeartbeats 2000000 in
theorem lawake_any (w : World) : Calls Try.prog 6 #[] w fun e w' => e = .returned (.bool true) ∧ Below w.heap.size w w' := by
  go_enter Try.func6, Try.ntmps6
  go_wp2_with fail
  refine (lr_any (1) (0) _).mono ?_
  rintro e w1 ⟨rfl, hb1⟩
  go_wp2_with fail
  refine (ln_any (255) _).mono ?_
  rintro e w2 ⟨rfl, hb2⟩
  go_wp2_with fail
  refine (lof_any (1) _ _ _ _).mono ?_
  rintro e w3 ⟨rfl, hb3⟩
  go_wp2_with fail
  refine (lr_any (1) (0) _).mono ?_
  rintro e w4 ⟨rfl, hb4⟩
  go_wp2_with fail
  refine (ln_any (-1) _).mono ?_
  rintro e w5 ⟨rfl, hb5⟩
  go_wp2_with fail
  refine (lof_any (1) _ _ _ _).mono ?_
  rintro e w6 ⟨rfl, hb6⟩
  go_wp2_with fail
  refine (lcanon_any (op := 1) (op' := 1) (l := [R1 1 0, N1 255]) (l' := [R1 1 0, N1 (-1)]) (v := true) (by decide +kernel) rfl rfl (by decide) (fine_cons (by unfold I64; decide) (fine_cons (by unfold I64; decide) fine_nil)) _ ?_ ?_).mono ?_
  · (repeat (first | ((with_reducible refine Args.row ?_ ?_ ?_); rfl; simp [cellsA]; (simp; done)) | with_reducible exact Args.nil _ _ _ | with_reducible refine Args.alloc ?_ _ | with_reducible refine Args.drew ?_ | (apply Args.call; rotate_left; with_reducible assumption)))
  · (repeat (first | ((with_reducible refine Args.row ?_ ?_ ?_); rfl; simp [cellsA]; (simp; done)) | with_reducible exact Args.nil _ _ _ | with_reducible refine Args.alloc ?_ _ | with_reducible refine Args.drew ?_ | (apply Args.call; rotate_left; with_reducible assumption)))
  rintro e w7 ⟨rfl, hb7⟩
  go_wp2_with fail
  refine (lr_any (4) (1) _).mono ?_
  rintro e w8 ⟨rfl, hb8⟩
  go_wp2_with fail
  refine (lr_any (4) (0) _).mono ?_
  rintro e w9 ⟨rfl, hb9⟩
  go_wp2_with fail
  refine (lof_any (11) _ _ _ _).mono ?_
  rintro e w10 ⟨rfl, hb10⟩
  go_wp2_with fail
  refine (lr_any (4) (0) _).mono ?_
  rintro e w11 ⟨rfl, hb11⟩
  go_wp2_with fail
  refine (lr_any (4) (1) _).mono ?_
  rintro e w12 ⟨rfl, hb12⟩
  go_wp2_with fail
  refine (lof_any (11) _ _ _ _).mono ?_
  rintro e w13 ⟨rfl, hb13⟩
  go_wp2_with fail
  refine (lcanon_any (op := 11) (op' := 11) (l := [R1 4 1, R1 4 0]) (l' := [R1 4 0, R1 4 1]) (v := true) (by decide +kernel) rfl rfl (by decide) (fine_cons (by unfold I64; decide) (fine_cons (by unfold I64; decide) fine_nil)) _ ?_ ?_).mono ?_
  · (repeat (first | ((with_reducible refine Args.row ?_ ?_ ?_); rfl; simp [cellsA]; (simp; done)) | with_reducible exact Args.nil _ _ _ | with_reducible refine Args.alloc ?_ _ | with_reducible refine Args.drew ?_ | (apply Args.call; rotate_left; with_reducible assumption)))
  · (repeat (first | ((with_reducible refine Args.row ?_ ?_ ?_); rfl; simp [cellsA]; (simp; done)) | with_reducible exact Args.nil _ _ _ | with_reducible refine Args.alloc ?_ _ | with_reducible refine Args.drew ?_ | (apply Args.call; rotate_left; with_reducible assumption)))
  rintro e w14 ⟨rfl, hb14⟩
  go_wp2_with fail
  refine (lof_any (0) _ _ _ _).mono ?_
  rintro e w15 ⟨rfl, hb15⟩
  go_wp2_with fail
  refine (check_at (op := 0) (l := []) (e' := 6) (by decide +kernel) rfl (by decide) fine_nil _ ?_).mono ?_
  · (repeat (first | ((with_reducible refine Args.row ?_ ?_ ?_); rfl; simp [cellsA]; (simp; done)) | with_reducible exact Args.nil _ _ _ | with_reducible refine Args.alloc ?_ _ | with_reducible refine Args.drew ?_ | (apply Args.call; rotate_left; with_reducible assumption)))
  rintro e w16 ⟨rfl, hb16⟩
  go_wp2_with fail
  go_ret
  refine ⟨rfl, ?_⟩
  (repeat (first | with_reducible exact Below.refl _ _ | with_reducible refine bel_alloc ?_ _ | with_reducible refine bel_drew ?_ | (apply bel_call; rotate_left; with_reducible assumption)))
end Go.Proofs.Ytmlmdbholakioaa
