/-
  The chapter's examples.
-/
import Derived.Test.YtmlmdbholakioaaInstAwake
import Derived.Deep.RegionHeld3
namespace Go.Proofs.Ytmlmdbholakioaa
open Go.RowKit

theorem bel_trans {w w1 w2 : World} (h : Below w.heap.size w w1) (hb : Below w1.heap.size w1 w2) : Below w.heap.size w w2 := bel_call h hb
set_option maxHeartbeats 4000000 in
theorem iknown_law (w : World) : Calls Try.prog 4 #[] w fun e w' => e = .returned (.bool true) ∧ Below w.heap.size w w' := by
  go_enter Try.func4, Try.ntmps4
  go_wp2_with fail
  refine (lr_any 4 0 _).mono ?_
  rintro e w1 ⟨rfl, hb1⟩
  have HO := hid (((Own.nil w).call hb1).alloc w1.heap.size #[.int .i64 1, .int .i64 4, .int .i64 0, .int .i64 0, .int .i64 0, .int .i64 0, .int .i64 0, .int .i64 0, .int .i64 0, .int .i64 0, .int .i64 0] 42 rfl)
  have hW0 := bel_alloc hb1 (.cells #[.int .i64 1, .int .i64 4, .int .i64 0, .int .i64 0, .int .i64 0, .int .i64 0, .int .i64 0, .int .i64 0, .int .i64 0, .int .i64 0, .int .i64 0] 42)
  go_upto_region 2 with fail
  generalize w1.alloc (.cells #[.int .i64 1, .int .i64 4, .int .i64 0, .int .i64 0, .int .i64 0, .int .i64 0, .int .i64 0, .int .i64 0, .int .i64 0, .int .i64 0, .int .i64 0] 42) = W at HO hW0 ⊢
  have c0 := HO.out.c
  have z0 := HO.out.z
  have HS := Old.refl W
  go_region_held3 (fun w' => Below W.heap.size W w' ∧ ∀ b o, b < W.heap.size → w'.cell? ⟨b, o, none⟩ = W.cell? ⟨b, o, none⟩) (first | assumption | exact old_drew HS | exact old_drew ‹_› | (refine old_kept ?_ (by assumption); assumption) | exact old_alloc ‹_› _) (first | (go_at_call 23; refine (ln_any _ _).mono ?_; rintro e w9 ⟨rfl, hbel⟩) | (go_at_call 24; refine (lm_any _ _).mono ?_; rintro e w9 ⟨rfl, hbel⟩) | (go_at_call 22; refine (lof_any _ _ _ _ _).mono ?_; rintro e w9 ⟨rfl, hbel⟩) | (go_at_call 21; (with_reducible refine (lcanon_any (op := 16) (op' := 16) (n := 2) (n' := 3) (l := [R1 4 0, N1 5]) (l' := [R1 4 0, R1 4 0, N1 5]) (v := true) (by decide +kernel) rfl rfl (by decide) (fine_cons (by unfold I64; decide) (fine_cons (by unfold I64; decide) fine_nil)) _ ?_ ?_).mono ?_); (focus (repeat (first | ((with_reducible refine Args.row ?_ ?_ ?_); rfl; simp [cellsA]; (simp; done)) | with_reducible exact Args.nil _ _ _ | with_reducible refine Args.alloc ?_ _ | with_reducible refine Args.drew ?_ | (apply Args.call; rotate_left; with_reducible assumption)))); (focus (repeat (first | ((with_reducible refine Args.row ?_ ?_ ?_); rfl; simp [cellsA]; (simp; done)) | with_reducible exact Args.nil _ _ _ | with_reducible refine Args.alloc ?_ _ | with_reducible refine Args.drew ?_ | (apply Args.call; rotate_left; with_reducible assumption)))); rintro e w9 ⟨rfl, hbel⟩) | (go_at_call 21; (with_reducible refine (lcanon_any (op := 10) (op' := 10) (n := 2) (n' := 2) (l := [R1 4 0, M1 3]) (l' := [M1 3, R1 4 0]) (v := true) (by decide +kernel) rfl rfl (by decide) (fine_cons (by unfold I64; decide) (fine_cons (by unfold I64; decide) fine_nil)) _ ?_ ?_).mono ?_); (focus (repeat (first | ((with_reducible refine Args.row ?_ ?_ ?_); rfl; simp [cellsA]; (simp; done)) | with_reducible exact Args.nil _ _ _ | with_reducible refine Args.alloc ?_ _ | with_reducible refine Args.drew ?_ | (apply Args.call; rotate_left; with_reducible assumption)))); (focus (repeat (first | ((with_reducible refine Args.row ?_ ?_ ?_); rfl; simp [cellsA]; (simp; done)) | with_reducible exact Args.nil _ _ _ | with_reducible refine Args.alloc ?_ _ | with_reducible refine Args.drew ?_ | (apply Args.call; rotate_left; with_reducible assumption)))); rintro e w9 ⟨rfl, hbel⟩))
  have HO2 := hid (HO.out.call (show Below W.heap.size W w9 by apply And.left; assumption))
  have hW2 : Below w.heap.size w w9 := HO2.out.below
  clear c0 z0
  generalize w9 = W2 at *
  go_wp2_with fail
  refine (lr_any (1) (0) _).mono ?_
  rintro e w11 ⟨rfl, hb11⟩
  go_wp2_with fail
  refine (ln_any (256) _).mono ?_
  rintro e w12 ⟨rfl, hb12⟩
  go_wp2_with fail
  refine (lof_any (1) _ _ _ _).mono ?_
  rintro e w13 ⟨rfl, hb13⟩
  go_wp2_with fail
  refine (check_at (op := 1) (l := [R1 1 0, N1 256]) (e' := 5) (by decide +kernel) rfl (by decide) (fine_cons (by unfold I64; decide) (fine_cons (by unfold I64; decide) fine_nil)) _ ?_).mono ?_
  · (repeat (first | ((with_reducible refine Args.row ?_ ?_ ?_); rfl; simp [cellsA]; (simp; done)) | with_reducible exact Args.nil _ _ _ | with_reducible refine Args.alloc ?_ _ | with_reducible refine Args.drew ?_ | (apply Args.call; rotate_left; with_reducible assumption)))
  rintro e w14 ⟨rfl, hb14⟩
  go_wp2_with fail
  refine (ln_any (1) _).mono ?_
  rintro e w15 ⟨rfl, hb15⟩
  go_wp2_with fail
  refine (ln_any (2) _).mono ?_
  rintro e w16 ⟨rfl, hb16⟩
  go_wp2_with fail
  refine (lof_any (1) _ _ _ _).mono ?_
  rintro e w17 ⟨rfl, hb17⟩
  go_wp2_with fail
  refine (check_at (op := 1) (l := [N1 1, N1 2]) (e' := 2) (by decide +kernel) rfl (by decide) (fine_cons (by unfold I64; decide) (fine_cons (by unfold I64; decide) fine_nil)) _ ?_).mono ?_
  · (repeat (first | ((with_reducible refine Args.row ?_ ?_ ?_); rfl; simp [cellsA]; (simp; done)) | with_reducible exact Args.nil _ _ _ | with_reducible refine Args.alloc ?_ _ | with_reducible refine Args.drew ?_ | (apply Args.call; rotate_left; with_reducible assumption)))
  rintro e w18 ⟨rfl, hb18⟩
  go_wp2_with fail
  refine (ln_any (-1) _).mono ?_
  rintro e w19 ⟨rfl, hb19⟩
  go_wp2_with fail
  refine (lof_any (48) _ _ _ _).mono ?_
  rintro e w20 ⟨rfl, hb20⟩
  go_wp2_with fail
  refine (check_at (op := 48) (l := [N1 (-1)]) (e' := 0) (by decide +kernel) rfl (by decide) (fine_cons (by unfold I64; decide) fine_nil) _ ?_).mono ?_
  · (repeat (first | ((with_reducible refine Args.row ?_ ?_ ?_); rfl; simp [cellsA]; (simp; done)) | with_reducible exact Args.nil _ _ _ | with_reducible refine Args.alloc ?_ _ | with_reducible refine Args.drew ?_ | (apply Args.call; rotate_left; with_reducible assumption)))
  rintro e w21 ⟨rfl, hb21⟩
  go_wp2_with fail
  refine (ln_any (65535) _).mono ?_
  rintro e w22 ⟨rfl, hb22⟩
  go_wp2_with fail
  refine (lof_any (51) _ _ _ _).mono ?_
  rintro e w23 ⟨rfl, hb23⟩
  go_wp2_with fail
  refine (check_at (op := 51) (l := [N1 65535]) (e' := 0) (by decide +kernel) rfl (by decide) (fine_cons (by unfold I64; decide) fine_nil) _ ?_).mono ?_
  · (repeat (first | ((with_reducible refine Args.row ?_ ?_ ?_); rfl; simp [cellsA]; (simp; done)) | with_reducible exact Args.nil _ _ _ | with_reducible refine Args.alloc ?_ _ | with_reducible refine Args.drew ?_ | (apply Args.call; rotate_left; with_reducible assumption)))
  rintro e w24 ⟨rfl, hb24⟩
  go_wp2_with fail
  refine (lm_any (0) _).mono ?_
  rintro e w25 ⟨rfl, hb25⟩
  go_wp2_with fail
  refine (lm_any (3) _).mono ?_
  rintro e w26 ⟨rfl, hb26⟩
  go_wp2_with fail
  refine (lof_any (9) _ _ _ _).mono ?_
  rintro e w27 ⟨rfl, hb27⟩
  go_wp2_with fail
  refine (check_at (op := 9) (l := [M1 0, M1 3]) (e' := 2) (by decide +kernel) rfl (by decide) (fine_cons (by unfold I64; decide) (fine_cons (by unfold I64; decide) fine_nil)) _ ?_).mono ?_
  · (repeat (first | ((with_reducible refine Args.row ?_ ?_ ?_); rfl; simp [cellsA]; (simp; done)) | with_reducible exact Args.nil _ _ _ | with_reducible refine Args.alloc ?_ _ | with_reducible refine Args.drew ?_ | (apply Args.call; rotate_left; with_reducible assumption)))
  rintro e w28 ⟨rfl, hb28⟩
  have hE4 : Below W2.heap.size W2 w28 := by
    (repeat (first | with_reducible exact Below.refl _ _ | with_reducible refine bel_alloc ?_ _ | with_reducible refine bel_drew ?_ | (apply bel_call; rotate_left; with_reducible assumption)))
  have HO4 := hid (HO2.out.call hE4)
  have c0 := HO4.out.c
  have z0 := HO4.out.z
  go_upto_region 4 with fail
  have HS := Old.refl w28
  go_region_held3 (fun w' => Below w28.heap.size w28 w' ∧ ∀ b o, b < w28.heap.size → w'.cell? ⟨b, o, none⟩ = w28.cell? ⟨b, o, none⟩) (first | assumption | exact old_drew HS | exact old_drew ‹_› | (refine old_kept ?_ (by assumption); assumption) | exact old_alloc ‹_› _) (first | (go_at_call 23; refine (ln_any _ _).mono ?_; rintro e w9 ⟨rfl, hbel⟩) | (go_at_call 22; refine (lof_any _ _ _ _ _).mono ?_; rintro e w9 ⟨rfl, hbel⟩) | (go_at_call 10; refine (bits_at (op := 1) (l := [R1 4 0, N1 5]) (x := 32) (s := true) (by decide +kernel) rfl (fine_cons (by unfold I64; decide) (fine_cons (by unfold I64; decide) fine_nil)) _ ?_).mono ?_; (focus (repeat (first | ((with_reducible refine Args.row ?_ ?_ ?_); rfl; simp [cellsA]; (simp; done)) | with_reducible exact Args.nil _ _ _ | with_reducible refine Args.alloc ?_ _ | with_reducible refine Args.drew ?_ | (apply Args.call; rotate_left; with_reducible assumption)))); rintro e w9 ⟨rfl, hbel⟩))
  have hW4 : Below W2.heap.size W2 w9 := bel_trans hE4 (show Below w28.heap.size w28 w9 by apply And.left; assumption)
  clear c0 z0 HS
  generalize w9 = W4 at *
  have hE5 : Below W2.heap.size W2 W4 := by
    (repeat (first | with_reducible exact Below.refl _ _ | with_reducible refine bel_alloc ?_ _ | with_reducible refine bel_drew ?_ | (apply bel_call; rotate_left; with_reducible assumption)))
  have HO5 := hid (HO2.out.call hE5)
  have c0 := HO5.out.c
  have z0 := HO5.out.z
  go_upto_region 5 with fail
  have HS := Old.refl W4
  go_region_held3 (fun w' => Below W4.heap.size W4 w' ∧ ∀ b o, b < W4.heap.size → w'.cell? ⟨b, o, none⟩ = W4.cell? ⟨b, o, none⟩) (first | assumption | exact old_drew HS | exact old_drew ‹_› | (refine old_kept ?_ (by assumption); assumption) | exact old_alloc ‹_› _) (first | (go_at_call 23; refine (ln_any _ _).mono ?_; rintro e w9 ⟨rfl, hbel⟩) | (go_at_call 22; refine (lof_any _ _ _ _ _).mono ?_; rintro e w9 ⟨rfl, hbel⟩) | (go_at_call 10; refine (bits_at (op := 28) (l := [R1 4 0, N1 5]) (x := 8) (s := false) (by decide +kernel) rfl (fine_cons (by unfold I64; decide) (fine_cons (by unfold I64; decide) fine_nil)) _ ?_).mono ?_; (focus (repeat (first | ((with_reducible refine Args.row ?_ ?_ ?_); rfl; simp [cellsA]; (simp; done)) | with_reducible exact Args.nil _ _ _ | with_reducible refine Args.alloc ?_ _ | with_reducible refine Args.drew ?_ | (apply Args.call; rotate_left; with_reducible assumption)))); rintro e w9 ⟨rfl, hbel⟩))
  have hW5 : Below W2.heap.size W2 w9 := bel_trans hE5 (show Below W4.heap.size W4 w9 by apply And.left; assumption)
  clear c0 z0 HS
  generalize w9 = W5 at *
  go_wp2_with fail
  refine (ln_any (1) _).mono ?_
  rintro e w61 ⟨rfl, hb61⟩
  go_wp2_with fail
  refine (lof_any (48) _ _ _ _).mono ?_
  rintro e w62 ⟨rfl, hb62⟩
  go_wp2_with fail
  refine (bits_at (op := 48) (l := [N1 1]) (x := 64) (s := true) (by decide +kernel) rfl (fine_cons (by unfold I64; decide) fine_nil) _ ?_).mono ?_
  · (repeat (first | ((with_reducible refine Args.row ?_ ?_ ?_); rfl; simp [cellsA]; (simp; done)) | with_reducible exact Args.nil _ _ _ | with_reducible refine Args.alloc ?_ _ | with_reducible refine Args.drew ?_ | (apply Args.call; rotate_left; with_reducible assumption)))
  rintro e w63 ⟨rfl, hb63⟩
  go_wp2_with fail
  refine (lawake_any _).mono ?_
  rintro e w64 ⟨rfl, hb64⟩
  go_wp2_with fail
  refine (ln_any (-1) _).mono ?_
  rintro e w65 ⟨rfl, hb65⟩
  go_wp2_with fail
  refine (lof_any (51) _ _ _ _).mono ?_
  rintro e w66 ⟨rfl, hb66⟩
  go_wp2_with fail
  refine (ln_any (65535) _).mono ?_
  rintro e w67 ⟨rfl, hb67⟩
  go_wp2_with fail
  refine (lof_any (51) _ _ _ _).mono ?_
  rintro e w68 ⟨rfl, hb68⟩
  go_wp2_with fail
  refine (same_at (op := 51) (op' := 51) (l := [N1 (-1)]) (l' := [N1 65535]) (v := true) (by decide +kernel) rfl rfl (by decide) (by decide) (fine_cons (by unfold I64; decide) fine_nil) (fine_cons (by unfold I64; decide) fine_nil) _ ?_ ?_).mono ?_
  · (repeat (first | ((with_reducible refine Args.row ?_ ?_ ?_); rfl; simp [cellsA]; (simp; done)) | with_reducible exact Args.nil _ _ _ | with_reducible refine Args.alloc ?_ _ | with_reducible refine Args.drew ?_ | (apply Args.call; rotate_left; with_reducible assumption)))
  · (repeat (first | ((with_reducible refine Args.row ?_ ?_ ?_); rfl; simp [cellsA]; (simp; done)) | with_reducible exact Args.nil _ _ _ | with_reducible refine Args.alloc ?_ _ | with_reducible refine Args.drew ?_ | (apply Args.call; rotate_left; with_reducible assumption)))
  rintro e w69 ⟨rfl, hb69⟩
  go_wp2_with fail
  go_ret
  refine ⟨rfl, ?_⟩
  (repeat (first | with_reducible exact Below.refl _ _ | with_reducible refine bel_alloc ?_ _ | with_reducible refine bel_drew ?_ | (apply bel_call; rotate_left; with_reducible assumption)))
end Go.Proofs.Ytmlmdbholakioaa
