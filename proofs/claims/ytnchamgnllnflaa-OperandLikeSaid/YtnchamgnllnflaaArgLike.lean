/-
  The walk of OperandLike.
-/
import Derived.Test.YtnchamgnllnflaaArgLaw
namespace Go.Proofs.Ytnchamgnllnflaa
open Go.RowKit

set_option maxHeartbeats 2000000 in
theorem like_0low (n which : Int) (w : World) (hw : which.tmod 4 = 0) (HN : Hid (I64 n)) (HX : Hid (immV n 8 true = 0)) (HY : Hid (immV n 8 false = 0)) (HE : Hid (immE n 8 = 5)) (h : n < -128) :
    Calls Try.prog 7 #[.int .i64 n, .int .i64 which] w fun e w' => e = .returned (.bool true) ∧ Below w.heap.size w w' := by
  go_enter Try.func7, Try.ntmps7
  go_wp2_with fail
  refine (awake_any _).mono ?_
  rintro e w0 ⟨rfl, HB⟩
  have HB : Below w.heap.size w (w0.alloc (.cells #[.int .i64 8, .int .i64 16, .int .i64 32, .int .i64 64] 3)) := HB.alloc HB.size _
  go_wp2_with (first | (go_at_call 17; with_reducible refine (imm_of (n := n) (b := 8) (s := true) HN.out HX.out HE.out _).mono ?_; rintro e w1 ⟨rfl, hb1⟩; have HB : Below w.heap.size w w1 := HB.trans (hb1.mono HB.size); clear hb1) | (go_at_call 17; with_reducible refine (imm_of (n := n) (b := 8) (s := false) HN.out HY.out HE.out _).mono ?_; rintro e w1 ⟨rfl, hb1⟩; have HB : Below w.heap.size w w1 := HB.trans (hb1.mono HB.size); clear hb1))
  go_returns
  exact ⟨by trivial, HB⟩
set_option maxHeartbeats 2000000 in
theorem like_0high (n which : Int) (w : World) (hw : which.tmod 4 = 0) (HN : Hid (I64 n)) (HX : Hid (immV n 8 true = 0)) (HY : Hid (immV n 8 false = 0)) (HE : Hid (immE n 8 = 5)) (h : 256 ≤ n) :
    Calls Try.prog 7 #[.int .i64 n, .int .i64 which] w fun e w' => e = .returned (.bool true) ∧ Below w.heap.size w w' := by
  go_enter Try.func7, Try.ntmps7
  go_wp2_with fail
  refine (awake_any _).mono ?_
  rintro e w0 ⟨rfl, HB⟩
  have HB : Below w.heap.size w (w0.alloc (.cells #[.int .i64 8, .int .i64 16, .int .i64 32, .int .i64 64] 3)) := HB.alloc HB.size _
  go_wp2_with (first | (go_at_call 17; with_reducible refine (imm_of (n := n) (b := 8) (s := true) HN.out HX.out HE.out _).mono ?_; rintro e w1 ⟨rfl, hb1⟩; have HB : Below w.heap.size w w1 := HB.trans (hb1.mono HB.size); clear hb1) | (go_at_call 17; with_reducible refine (imm_of (n := n) (b := 8) (s := false) HN.out HY.out HE.out _).mono ?_; rintro e w1 ⟨rfl, hb1⟩; have HB : Below w.heap.size w w1 := HB.trans (hb1.mono HB.size); clear hb1))
  go_returns
  exact ⟨by trivial, HB⟩
set_option maxHeartbeats 2000000 in
theorem like_0in (n which a b : Int) (w : World) (hw : which.tmod 4 = 0) (HN : Hid (I64 n)) (HX : Hid (immV n 8 true = a)) (HY : Hid (immV n 8 false = b)) (HE : Hid (immE n 8 = 0)) (HA : Hid (I64 a)) (HB' : Hid (I64 b)) (hn1 : -128 ≤ n) (hn2 : n < 256) (ha1 : -128 ≤ a) (ha2 : a < 128) (hb1 : 0 ≤ b) (hb2 : b < 256) (ht1 : (a - n).tmod 256 = 0) (ht2 : (b - n).tmod 256 = 0) (H1 : Hid ((immV a 8 true == a && immE a 8 == 0) = true)) (H2 : Hid ((immV b 8 false == b && immE b 8 == 0) = true)) (H3 : Hid ((immV a 8 false == b && immE a 8 == 0) = true)) (H4 : Hid ((immV b 8 true == a && immE b 8 == 0) = true)) :
    Calls Try.prog 7 #[.int .i64 n, .int .i64 which] w fun e w' => e = .returned (.bool true) ∧ Below w.heap.size w w' := by
  go_enter Try.func7, Try.ntmps7
  go_wp2_with fail
  refine (awake_any _).mono ?_
  rintro e w0 ⟨rfl, HB⟩
  have HB : Below w.heap.size w (w0.alloc (.cells #[.int .i64 8, .int .i64 16, .int .i64 32, .int .i64 64] 3)) := HB.alloc HB.size _
  go_wp2_with (first | (go_at_call 17; with_reducible refine (imm_of (n := n) (b := 8) (s := true) HN.out HX.out HE.out _).mono ?_; rintro e w1 ⟨rfl, hb1⟩; have HB : Below w.heap.size w w1 := HB.trans (hb1.mono HB.size); clear hb1) | (go_at_call 17; with_reducible refine (imm_of (n := n) (b := 8) (s := false) HN.out HY.out HE.out _).mono ?_; rintro e w1 ⟨rfl, hb1⟩; have HB : Below w.heap.size w w1 := HB.trans (hb1.mono HB.size); clear hb1) | (go_at_call 20; with_reducible refine (limm_of (n := a) (b := 8) (want := a) (er := 0) (s := true) (v := true) HA.out H1.out _).mono ?_; rintro e w1 ⟨rfl, hb1⟩; have HB : Below w.heap.size w w1 := HB.trans (hb1.mono HB.size); clear hb1) | (go_at_call 20; with_reducible refine (limm_of (n := b) (b := 8) (want := b) (er := 0) (s := false) (v := true) HB'.out H2.out _).mono ?_; rintro e w1 ⟨rfl, hb1⟩; have HB : Below w.heap.size w w1 := HB.trans (hb1.mono HB.size); clear hb1) | (go_at_call 20; with_reducible refine (limm_of (n := a) (b := 8) (want := b) (er := 0) (s := false) (v := true) HA.out H3.out _).mono ?_; rintro e w1 ⟨rfl, hb1⟩; have HB : Below w.heap.size w w1 := HB.trans (hb1.mono HB.size); clear hb1) | (go_at_call 20; with_reducible refine (limm_of (n := b) (b := 8) (want := a) (er := 0) (s := true) (v := true) HB'.out H4.out _).mono ?_; rintro e w1 ⟨rfl, hb1⟩; have HB : Below w.heap.size w w1 := HB.trans (hb1.mono HB.size); clear hb1))
  go_returns
  exact ⟨by trivial, HB⟩
set_option maxHeartbeats 2000000 in
theorem like_1low (n which : Int) (w : World) (hw : which.tmod 4 = 1) (HN : Hid (I64 n)) (HX : Hid (immV n 16 true = 0)) (HY : Hid (immV n 16 false = 0)) (HE : Hid (immE n 16 = 5)) (h : n < -32768) :
    Calls Try.prog 7 #[.int .i64 n, .int .i64 which] w fun e w' => e = .returned (.bool true) ∧ Below w.heap.size w w' := by
  go_enter Try.func7, Try.ntmps7
  go_wp2_with fail
  refine (awake_any _).mono ?_
  rintro e w0 ⟨rfl, HB⟩
  have HB : Below w.heap.size w (w0.alloc (.cells #[.int .i64 8, .int .i64 16, .int .i64 32, .int .i64 64] 3)) := HB.alloc HB.size _
  go_wp2_with (first | (go_at_call 17; with_reducible refine (imm_of (n := n) (b := 16) (s := true) HN.out HX.out HE.out _).mono ?_; rintro e w1 ⟨rfl, hb1⟩; have HB : Below w.heap.size w w1 := HB.trans (hb1.mono HB.size); clear hb1) | (go_at_call 17; with_reducible refine (imm_of (n := n) (b := 16) (s := false) HN.out HY.out HE.out _).mono ?_; rintro e w1 ⟨rfl, hb1⟩; have HB : Below w.heap.size w w1 := HB.trans (hb1.mono HB.size); clear hb1))
  go_returns
  exact ⟨by trivial, HB⟩
set_option maxHeartbeats 2000000 in
theorem like_1high (n which : Int) (w : World) (hw : which.tmod 4 = 1) (HN : Hid (I64 n)) (HX : Hid (immV n 16 true = 0)) (HY : Hid (immV n 16 false = 0)) (HE : Hid (immE n 16 = 5)) (h : 65536 ≤ n) :
    Calls Try.prog 7 #[.int .i64 n, .int .i64 which] w fun e w' => e = .returned (.bool true) ∧ Below w.heap.size w w' := by
  go_enter Try.func7, Try.ntmps7
  go_wp2_with fail
  refine (awake_any _).mono ?_
  rintro e w0 ⟨rfl, HB⟩
  have HB : Below w.heap.size w (w0.alloc (.cells #[.int .i64 8, .int .i64 16, .int .i64 32, .int .i64 64] 3)) := HB.alloc HB.size _
  go_wp2_with (first | (go_at_call 17; with_reducible refine (imm_of (n := n) (b := 16) (s := true) HN.out HX.out HE.out _).mono ?_; rintro e w1 ⟨rfl, hb1⟩; have HB : Below w.heap.size w w1 := HB.trans (hb1.mono HB.size); clear hb1) | (go_at_call 17; with_reducible refine (imm_of (n := n) (b := 16) (s := false) HN.out HY.out HE.out _).mono ?_; rintro e w1 ⟨rfl, hb1⟩; have HB : Below w.heap.size w w1 := HB.trans (hb1.mono HB.size); clear hb1))
  go_returns
  exact ⟨by trivial, HB⟩
set_option maxHeartbeats 2000000 in
theorem like_1in (n which a b : Int) (w : World) (hw : which.tmod 4 = 1) (HN : Hid (I64 n)) (HX : Hid (immV n 16 true = a)) (HY : Hid (immV n 16 false = b)) (HE : Hid (immE n 16 = 0)) (HA : Hid (I64 a)) (HB' : Hid (I64 b)) (hn1 : -32768 ≤ n) (hn2 : n < 65536) (ha1 : -32768 ≤ a) (ha2 : a < 32768) (hb1 : 0 ≤ b) (hb2 : b < 65536) (ht1 : (a - n).tmod 65536 = 0) (ht2 : (b - n).tmod 65536 = 0) (H1 : Hid ((immV a 16 true == a && immE a 16 == 0) = true)) (H2 : Hid ((immV b 16 false == b && immE b 16 == 0) = true)) (H3 : Hid ((immV a 16 false == b && immE a 16 == 0) = true)) (H4 : Hid ((immV b 16 true == a && immE b 16 == 0) = true)) :
    Calls Try.prog 7 #[.int .i64 n, .int .i64 which] w fun e w' => e = .returned (.bool true) ∧ Below w.heap.size w w' := by
  go_enter Try.func7, Try.ntmps7
  go_wp2_with fail
  refine (awake_any _).mono ?_
  rintro e w0 ⟨rfl, HB⟩
  have HB : Below w.heap.size w (w0.alloc (.cells #[.int .i64 8, .int .i64 16, .int .i64 32, .int .i64 64] 3)) := HB.alloc HB.size _
  go_wp2_with (first | (go_at_call 17; with_reducible refine (imm_of (n := n) (b := 16) (s := true) HN.out HX.out HE.out _).mono ?_; rintro e w1 ⟨rfl, hb1⟩; have HB : Below w.heap.size w w1 := HB.trans (hb1.mono HB.size); clear hb1) | (go_at_call 17; with_reducible refine (imm_of (n := n) (b := 16) (s := false) HN.out HY.out HE.out _).mono ?_; rintro e w1 ⟨rfl, hb1⟩; have HB : Below w.heap.size w w1 := HB.trans (hb1.mono HB.size); clear hb1) | (go_at_call 20; with_reducible refine (limm_of (n := a) (b := 16) (want := a) (er := 0) (s := true) (v := true) HA.out H1.out _).mono ?_; rintro e w1 ⟨rfl, hb1⟩; have HB : Below w.heap.size w w1 := HB.trans (hb1.mono HB.size); clear hb1) | (go_at_call 20; with_reducible refine (limm_of (n := b) (b := 16) (want := b) (er := 0) (s := false) (v := true) HB'.out H2.out _).mono ?_; rintro e w1 ⟨rfl, hb1⟩; have HB : Below w.heap.size w w1 := HB.trans (hb1.mono HB.size); clear hb1) | (go_at_call 20; with_reducible refine (limm_of (n := a) (b := 16) (want := b) (er := 0) (s := false) (v := true) HA.out H3.out _).mono ?_; rintro e w1 ⟨rfl, hb1⟩; have HB : Below w.heap.size w w1 := HB.trans (hb1.mono HB.size); clear hb1) | (go_at_call 20; with_reducible refine (limm_of (n := b) (b := 16) (want := a) (er := 0) (s := true) (v := true) HB'.out H4.out _).mono ?_; rintro e w1 ⟨rfl, hb1⟩; have HB : Below w.heap.size w w1 := HB.trans (hb1.mono HB.size); clear hb1))
  go_returns
  exact ⟨by trivial, HB⟩
set_option maxHeartbeats 2000000 in
theorem like_2low (n which : Int) (w : World) (hw : which.tmod 4 = 2) (HN : Hid (I64 n)) (HX : Hid (immV n 32 true = 0)) (HY : Hid (immV n 32 false = 0)) (HE : Hid (immE n 32 = 5)) (h : n < -2147483648) :
    Calls Try.prog 7 #[.int .i64 n, .int .i64 which] w fun e w' => e = .returned (.bool true) ∧ Below w.heap.size w w' := by
  go_enter Try.func7, Try.ntmps7
  go_wp2_with fail
  refine (awake_any _).mono ?_
  rintro e w0 ⟨rfl, HB⟩
  have HB : Below w.heap.size w (w0.alloc (.cells #[.int .i64 8, .int .i64 16, .int .i64 32, .int .i64 64] 3)) := HB.alloc HB.size _
  go_wp2_with (first | (go_at_call 17; with_reducible refine (imm_of (n := n) (b := 32) (s := true) HN.out HX.out HE.out _).mono ?_; rintro e w1 ⟨rfl, hb1⟩; have HB : Below w.heap.size w w1 := HB.trans (hb1.mono HB.size); clear hb1) | (go_at_call 17; with_reducible refine (imm_of (n := n) (b := 32) (s := false) HN.out HY.out HE.out _).mono ?_; rintro e w1 ⟨rfl, hb1⟩; have HB : Below w.heap.size w w1 := HB.trans (hb1.mono HB.size); clear hb1))
  go_returns
  exact ⟨by trivial, HB⟩
set_option maxHeartbeats 2000000 in
theorem like_2high (n which : Int) (w : World) (hw : which.tmod 4 = 2) (HN : Hid (I64 n)) (HX : Hid (immV n 32 true = 0)) (HY : Hid (immV n 32 false = 0)) (HE : Hid (immE n 32 = 5)) (h : 4294967296 ≤ n) :
    Calls Try.prog 7 #[.int .i64 n, .int .i64 which] w fun e w' => e = .returned (.bool true) ∧ Below w.heap.size w w' := by
  go_enter Try.func7, Try.ntmps7
  go_wp2_with fail
  refine (awake_any _).mono ?_
  rintro e w0 ⟨rfl, HB⟩
  have HB : Below w.heap.size w (w0.alloc (.cells #[.int .i64 8, .int .i64 16, .int .i64 32, .int .i64 64] 3)) := HB.alloc HB.size _
  go_wp2_with (first | (go_at_call 17; with_reducible refine (imm_of (n := n) (b := 32) (s := true) HN.out HX.out HE.out _).mono ?_; rintro e w1 ⟨rfl, hb1⟩; have HB : Below w.heap.size w w1 := HB.trans (hb1.mono HB.size); clear hb1) | (go_at_call 17; with_reducible refine (imm_of (n := n) (b := 32) (s := false) HN.out HY.out HE.out _).mono ?_; rintro e w1 ⟨rfl, hb1⟩; have HB : Below w.heap.size w w1 := HB.trans (hb1.mono HB.size); clear hb1))
  go_returns
  exact ⟨by trivial, HB⟩
set_option maxHeartbeats 2000000 in
theorem like_2in (n which a b : Int) (w : World) (hw : which.tmod 4 = 2) (HN : Hid (I64 n)) (HX : Hid (immV n 32 true = a)) (HY : Hid (immV n 32 false = b)) (HE : Hid (immE n 32 = 0)) (HA : Hid (I64 a)) (HB' : Hid (I64 b)) (hn1 : -2147483648 ≤ n) (hn2 : n < 4294967296) (ha1 : -2147483648 ≤ a) (ha2 : a < 2147483648) (hb1 : 0 ≤ b) (hb2 : b < 4294967296) (ht1 : (a - n).tmod 4294967296 = 0) (ht2 : (b - n).tmod 4294967296 = 0) (H1 : Hid ((immV a 32 true == a && immE a 32 == 0) = true)) (H2 : Hid ((immV b 32 false == b && immE b 32 == 0) = true)) (H3 : Hid ((immV a 32 false == b && immE a 32 == 0) = true)) (H4 : Hid ((immV b 32 true == a && immE b 32 == 0) = true)) :
    Calls Try.prog 7 #[.int .i64 n, .int .i64 which] w fun e w' => e = .returned (.bool true) ∧ Below w.heap.size w w' := by
  go_enter Try.func7, Try.ntmps7
  go_wp2_with fail
  refine (awake_any _).mono ?_
  rintro e w0 ⟨rfl, HB⟩
  have HB : Below w.heap.size w (w0.alloc (.cells #[.int .i64 8, .int .i64 16, .int .i64 32, .int .i64 64] 3)) := HB.alloc HB.size _
  go_wp2_with (first | (go_at_call 17; with_reducible refine (imm_of (n := n) (b := 32) (s := true) HN.out HX.out HE.out _).mono ?_; rintro e w1 ⟨rfl, hb1⟩; have HB : Below w.heap.size w w1 := HB.trans (hb1.mono HB.size); clear hb1) | (go_at_call 17; with_reducible refine (imm_of (n := n) (b := 32) (s := false) HN.out HY.out HE.out _).mono ?_; rintro e w1 ⟨rfl, hb1⟩; have HB : Below w.heap.size w w1 := HB.trans (hb1.mono HB.size); clear hb1) | (go_at_call 20; with_reducible refine (limm_of (n := a) (b := 32) (want := a) (er := 0) (s := true) (v := true) HA.out H1.out _).mono ?_; rintro e w1 ⟨rfl, hb1⟩; have HB : Below w.heap.size w w1 := HB.trans (hb1.mono HB.size); clear hb1) | (go_at_call 20; with_reducible refine (limm_of (n := b) (b := 32) (want := b) (er := 0) (s := false) (v := true) HB'.out H2.out _).mono ?_; rintro e w1 ⟨rfl, hb1⟩; have HB : Below w.heap.size w w1 := HB.trans (hb1.mono HB.size); clear hb1) | (go_at_call 20; with_reducible refine (limm_of (n := a) (b := 32) (want := b) (er := 0) (s := false) (v := true) HA.out H3.out _).mono ?_; rintro e w1 ⟨rfl, hb1⟩; have HB : Below w.heap.size w w1 := HB.trans (hb1.mono HB.size); clear hb1) | (go_at_call 20; with_reducible refine (limm_of (n := b) (b := 32) (want := a) (er := 0) (s := true) (v := true) HB'.out H4.out _).mono ?_; rintro e w1 ⟨rfl, hb1⟩; have HB : Below w.heap.size w w1 := HB.trans (hb1.mono HB.size); clear hb1))
  go_returns
  exact ⟨by trivial, HB⟩
set_option maxHeartbeats 2000000 in
theorem like_3 (n which : Int) (w : World) (hw : which.tmod 4 = 3) (HN : Hid (I64 n)) (HX : Hid (immV n 64 true = n)) (HY : Hid (immV n 64 false = n)) (HE : Hid (immE n 64 = 0))  :
    Calls Try.prog 7 #[.int .i64 n, .int .i64 which] w fun e w' => e = .returned (.bool true) ∧ Below w.heap.size w w' := by
  go_enter Try.func7, Try.ntmps7
  go_wp2_with fail
  refine (awake_any _).mono ?_
  rintro e w0 ⟨rfl, HB⟩
  have HB : Below w.heap.size w (w0.alloc (.cells #[.int .i64 8, .int .i64 16, .int .i64 32, .int .i64 64] 3)) := HB.alloc HB.size _
  go_wp2_with (first | (go_at_call 17; with_reducible refine (imm_of (n := n) (b := 64) (s := true) HN.out HX.out HE.out _).mono ?_; rintro e w1 ⟨rfl, hb1⟩; have HB : Below w.heap.size w w1 := HB.trans (hb1.mono HB.size); clear hb1) | (go_at_call 17; with_reducible refine (imm_of (n := n) (b := 64) (s := false) HN.out HY.out HE.out _).mono ?_; rintro e w1 ⟨rfl, hb1⟩; have HB : Below w.heap.size w w1 := HB.trans (hb1.mono HB.size); clear hb1))
  go_returns
  exact ⟨by trivial, HB⟩
set_option maxHeartbeats 2000000 in
theorem like_m3low (n which : Int) (w : World) (hw : which.tmod 4 = -3) (HN : Hid (I64 n)) (HX : Hid (immV n 16 true = 0)) (HY : Hid (immV n 16 false = 0)) (HE : Hid (immE n 16 = 5)) (h : n < -32768) :
    Calls Try.prog 7 #[.int .i64 n, .int .i64 which] w fun e w' => e = .returned (.bool true) ∧ Below w.heap.size w w' := by
  go_enter Try.func7, Try.ntmps7
  go_wp2_with fail
  refine (awake_any _).mono ?_
  rintro e w0 ⟨rfl, HB⟩
  have HB : Below w.heap.size w (w0.alloc (.cells #[.int .i64 8, .int .i64 16, .int .i64 32, .int .i64 64] 3)) := HB.alloc HB.size _
  go_wp2_with (first | (go_at_call 17; with_reducible refine (imm_of (n := n) (b := 16) (s := true) HN.out HX.out HE.out _).mono ?_; rintro e w1 ⟨rfl, hb1⟩; have HB : Below w.heap.size w w1 := HB.trans (hb1.mono HB.size); clear hb1) | (go_at_call 17; with_reducible refine (imm_of (n := n) (b := 16) (s := false) HN.out HY.out HE.out _).mono ?_; rintro e w1 ⟨rfl, hb1⟩; have HB : Below w.heap.size w w1 := HB.trans (hb1.mono HB.size); clear hb1))
  go_returns
  exact ⟨by trivial, HB⟩
set_option maxHeartbeats 2000000 in
theorem like_m3high (n which : Int) (w : World) (hw : which.tmod 4 = -3) (HN : Hid (I64 n)) (HX : Hid (immV n 16 true = 0)) (HY : Hid (immV n 16 false = 0)) (HE : Hid (immE n 16 = 5)) (h : 65536 ≤ n) :
    Calls Try.prog 7 #[.int .i64 n, .int .i64 which] w fun e w' => e = .returned (.bool true) ∧ Below w.heap.size w w' := by
  go_enter Try.func7, Try.ntmps7
  go_wp2_with fail
  refine (awake_any _).mono ?_
  rintro e w0 ⟨rfl, HB⟩
  have HB : Below w.heap.size w (w0.alloc (.cells #[.int .i64 8, .int .i64 16, .int .i64 32, .int .i64 64] 3)) := HB.alloc HB.size _
  go_wp2_with (first | (go_at_call 17; with_reducible refine (imm_of (n := n) (b := 16) (s := true) HN.out HX.out HE.out _).mono ?_; rintro e w1 ⟨rfl, hb1⟩; have HB : Below w.heap.size w w1 := HB.trans (hb1.mono HB.size); clear hb1) | (go_at_call 17; with_reducible refine (imm_of (n := n) (b := 16) (s := false) HN.out HY.out HE.out _).mono ?_; rintro e w1 ⟨rfl, hb1⟩; have HB : Below w.heap.size w w1 := HB.trans (hb1.mono HB.size); clear hb1))
  go_returns
  exact ⟨by trivial, HB⟩
set_option maxHeartbeats 2000000 in
theorem like_m3in (n which a b : Int) (w : World) (hw : which.tmod 4 = -3) (HN : Hid (I64 n)) (HX : Hid (immV n 16 true = a)) (HY : Hid (immV n 16 false = b)) (HE : Hid (immE n 16 = 0)) (HA : Hid (I64 a)) (HB' : Hid (I64 b)) (hn1 : -32768 ≤ n) (hn2 : n < 65536) (ha1 : -32768 ≤ a) (ha2 : a < 32768) (hb1 : 0 ≤ b) (hb2 : b < 65536) (ht1 : (a - n).tmod 65536 = 0) (ht2 : (b - n).tmod 65536 = 0) (H1 : Hid ((immV a 16 true == a && immE a 16 == 0) = true)) (H2 : Hid ((immV b 16 false == b && immE b 16 == 0) = true)) (H3 : Hid ((immV a 16 false == b && immE a 16 == 0) = true)) (H4 : Hid ((immV b 16 true == a && immE b 16 == 0) = true)) :
    Calls Try.prog 7 #[.int .i64 n, .int .i64 which] w fun e w' => e = .returned (.bool true) ∧ Below w.heap.size w w' := by
  go_enter Try.func7, Try.ntmps7
  go_wp2_with fail
  refine (awake_any _).mono ?_
  rintro e w0 ⟨rfl, HB⟩
  have HB : Below w.heap.size w (w0.alloc (.cells #[.int .i64 8, .int .i64 16, .int .i64 32, .int .i64 64] 3)) := HB.alloc HB.size _
  go_wp2_with (first | (go_at_call 17; with_reducible refine (imm_of (n := n) (b := 16) (s := true) HN.out HX.out HE.out _).mono ?_; rintro e w1 ⟨rfl, hb1⟩; have HB : Below w.heap.size w w1 := HB.trans (hb1.mono HB.size); clear hb1) | (go_at_call 17; with_reducible refine (imm_of (n := n) (b := 16) (s := false) HN.out HY.out HE.out _).mono ?_; rintro e w1 ⟨rfl, hb1⟩; have HB : Below w.heap.size w w1 := HB.trans (hb1.mono HB.size); clear hb1) | (go_at_call 20; with_reducible refine (limm_of (n := a) (b := 16) (want := a) (er := 0) (s := true) (v := true) HA.out H1.out _).mono ?_; rintro e w1 ⟨rfl, hb1⟩; have HB : Below w.heap.size w w1 := HB.trans (hb1.mono HB.size); clear hb1) | (go_at_call 20; with_reducible refine (limm_of (n := b) (b := 16) (want := b) (er := 0) (s := false) (v := true) HB'.out H2.out _).mono ?_; rintro e w1 ⟨rfl, hb1⟩; have HB : Below w.heap.size w w1 := HB.trans (hb1.mono HB.size); clear hb1) | (go_at_call 20; with_reducible refine (limm_of (n := a) (b := 16) (want := b) (er := 0) (s := false) (v := true) HA.out H3.out _).mono ?_; rintro e w1 ⟨rfl, hb1⟩; have HB : Below w.heap.size w w1 := HB.trans (hb1.mono HB.size); clear hb1) | (go_at_call 20; with_reducible refine (limm_of (n := b) (b := 16) (want := a) (er := 0) (s := true) (v := true) HB'.out H4.out _).mono ?_; rintro e w1 ⟨rfl, hb1⟩; have HB : Below w.heap.size w w1 := HB.trans (hb1.mono HB.size); clear hb1))
  go_returns
  exact ⟨by trivial, HB⟩
set_option maxHeartbeats 2000000 in
theorem like_m2low (n which : Int) (w : World) (hw : which.tmod 4 = -2) (HN : Hid (I64 n)) (HX : Hid (immV n 32 true = 0)) (HY : Hid (immV n 32 false = 0)) (HE : Hid (immE n 32 = 5)) (h : n < -2147483648) :
    Calls Try.prog 7 #[.int .i64 n, .int .i64 which] w fun e w' => e = .returned (.bool true) ∧ Below w.heap.size w w' := by
  go_enter Try.func7, Try.ntmps7
  go_wp2_with fail
  refine (awake_any _).mono ?_
  rintro e w0 ⟨rfl, HB⟩
  have HB : Below w.heap.size w (w0.alloc (.cells #[.int .i64 8, .int .i64 16, .int .i64 32, .int .i64 64] 3)) := HB.alloc HB.size _
  go_wp2_with (first | (go_at_call 17; with_reducible refine (imm_of (n := n) (b := 32) (s := true) HN.out HX.out HE.out _).mono ?_; rintro e w1 ⟨rfl, hb1⟩; have HB : Below w.heap.size w w1 := HB.trans (hb1.mono HB.size); clear hb1) | (go_at_call 17; with_reducible refine (imm_of (n := n) (b := 32) (s := false) HN.out HY.out HE.out _).mono ?_; rintro e w1 ⟨rfl, hb1⟩; have HB : Below w.heap.size w w1 := HB.trans (hb1.mono HB.size); clear hb1))
  go_returns
  exact ⟨by trivial, HB⟩
set_option maxHeartbeats 2000000 in
theorem like_m2high (n which : Int) (w : World) (hw : which.tmod 4 = -2) (HN : Hid (I64 n)) (HX : Hid (immV n 32 true = 0)) (HY : Hid (immV n 32 false = 0)) (HE : Hid (immE n 32 = 5)) (h : 4294967296 ≤ n) :
    Calls Try.prog 7 #[.int .i64 n, .int .i64 which] w fun e w' => e = .returned (.bool true) ∧ Below w.heap.size w w' := by
  go_enter Try.func7, Try.ntmps7
  go_wp2_with fail
  refine (awake_any _).mono ?_
  rintro e w0 ⟨rfl, HB⟩
  have HB : Below w.heap.size w (w0.alloc (.cells #[.int .i64 8, .int .i64 16, .int .i64 32, .int .i64 64] 3)) := HB.alloc HB.size _
  go_wp2_with (first | (go_at_call 17; with_reducible refine (imm_of (n := n) (b := 32) (s := true) HN.out HX.out HE.out _).mono ?_; rintro e w1 ⟨rfl, hb1⟩; have HB : Below w.heap.size w w1 := HB.trans (hb1.mono HB.size); clear hb1) | (go_at_call 17; with_reducible refine (imm_of (n := n) (b := 32) (s := false) HN.out HY.out HE.out _).mono ?_; rintro e w1 ⟨rfl, hb1⟩; have HB : Below w.heap.size w w1 := HB.trans (hb1.mono HB.size); clear hb1))
  go_returns
  exact ⟨by trivial, HB⟩
set_option maxHeartbeats 2000000 in
theorem like_m2in (n which a b : Int) (w : World) (hw : which.tmod 4 = -2) (HN : Hid (I64 n)) (HX : Hid (immV n 32 true = a)) (HY : Hid (immV n 32 false = b)) (HE : Hid (immE n 32 = 0)) (HA : Hid (I64 a)) (HB' : Hid (I64 b)) (hn1 : -2147483648 ≤ n) (hn2 : n < 4294967296) (ha1 : -2147483648 ≤ a) (ha2 : a < 2147483648) (hb1 : 0 ≤ b) (hb2 : b < 4294967296) (ht1 : (a - n).tmod 4294967296 = 0) (ht2 : (b - n).tmod 4294967296 = 0) (H1 : Hid ((immV a 32 true == a && immE a 32 == 0) = true)) (H2 : Hid ((immV b 32 false == b && immE b 32 == 0) = true)) (H3 : Hid ((immV a 32 false == b && immE a 32 == 0) = true)) (H4 : Hid ((immV b 32 true == a && immE b 32 == 0) = true)) :
    Calls Try.prog 7 #[.int .i64 n, .int .i64 which] w fun e w' => e = .returned (.bool true) ∧ Below w.heap.size w w' := by
  go_enter Try.func7, Try.ntmps7
  go_wp2_with fail
  refine (awake_any _).mono ?_
  rintro e w0 ⟨rfl, HB⟩
  have HB : Below w.heap.size w (w0.alloc (.cells #[.int .i64 8, .int .i64 16, .int .i64 32, .int .i64 64] 3)) := HB.alloc HB.size _
  go_wp2_with (first | (go_at_call 17; with_reducible refine (imm_of (n := n) (b := 32) (s := true) HN.out HX.out HE.out _).mono ?_; rintro e w1 ⟨rfl, hb1⟩; have HB : Below w.heap.size w w1 := HB.trans (hb1.mono HB.size); clear hb1) | (go_at_call 17; with_reducible refine (imm_of (n := n) (b := 32) (s := false) HN.out HY.out HE.out _).mono ?_; rintro e w1 ⟨rfl, hb1⟩; have HB : Below w.heap.size w w1 := HB.trans (hb1.mono HB.size); clear hb1) | (go_at_call 20; with_reducible refine (limm_of (n := a) (b := 32) (want := a) (er := 0) (s := true) (v := true) HA.out H1.out _).mono ?_; rintro e w1 ⟨rfl, hb1⟩; have HB : Below w.heap.size w w1 := HB.trans (hb1.mono HB.size); clear hb1) | (go_at_call 20; with_reducible refine (limm_of (n := b) (b := 32) (want := b) (er := 0) (s := false) (v := true) HB'.out H2.out _).mono ?_; rintro e w1 ⟨rfl, hb1⟩; have HB : Below w.heap.size w w1 := HB.trans (hb1.mono HB.size); clear hb1) | (go_at_call 20; with_reducible refine (limm_of (n := a) (b := 32) (want := b) (er := 0) (s := false) (v := true) HA.out H3.out _).mono ?_; rintro e w1 ⟨rfl, hb1⟩; have HB : Below w.heap.size w w1 := HB.trans (hb1.mono HB.size); clear hb1) | (go_at_call 20; with_reducible refine (limm_of (n := b) (b := 32) (want := a) (er := 0) (s := true) (v := true) HB'.out H4.out _).mono ?_; rintro e w1 ⟨rfl, hb1⟩; have HB : Below w.heap.size w w1 := HB.trans (hb1.mono HB.size); clear hb1))
  go_returns
  exact ⟨by trivial, HB⟩
set_option maxHeartbeats 2000000 in
theorem like_m1 (n which : Int) (w : World) (hw : which.tmod 4 = -1) (HN : Hid (I64 n)) (HX : Hid (immV n 64 true = n)) (HY : Hid (immV n 64 false = n)) (HE : Hid (immE n 64 = 0))  :
    Calls Try.prog 7 #[.int .i64 n, .int .i64 which] w fun e w' => e = .returned (.bool true) ∧ Below w.heap.size w w' := by
  go_enter Try.func7, Try.ntmps7
  go_wp2_with fail
  refine (awake_any _).mono ?_
  rintro e w0 ⟨rfl, HB⟩
  have HB : Below w.heap.size w (w0.alloc (.cells #[.int .i64 8, .int .i64 16, .int .i64 32, .int .i64 64] 3)) := HB.alloc HB.size _
  go_wp2_with (first | (go_at_call 17; with_reducible refine (imm_of (n := n) (b := 64) (s := true) HN.out HX.out HE.out _).mono ?_; rintro e w1 ⟨rfl, hb1⟩; have HB : Below w.heap.size w w1 := HB.trans (hb1.mono HB.size); clear hb1) | (go_at_call 17; with_reducible refine (imm_of (n := n) (b := 64) (s := false) HN.out HY.out HE.out _).mono ?_; rintro e w1 ⟨rfl, hb1⟩; have HB : Below w.heap.size w w1 := HB.trans (hb1.mono HB.size); clear hb1))
  go_returns
  exact ⟨by trivial, HB⟩
end Go.Proofs.Ytnchamgnllnflaa
