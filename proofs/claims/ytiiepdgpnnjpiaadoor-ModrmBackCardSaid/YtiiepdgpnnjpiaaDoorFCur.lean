/-
  Cursors: a number read, or a panic that is recovered; Int, Byte, At, Err, Open; all other blocks stand.
-/
import Derived.Test.YtiiepdgpnnjpiaaDoorFBack
import Derived.Test.YtiiepdgpnnjpiaaDoorFBase
import Derived.Deep.QuietTactic
import Derived.BigQuiet
import Derived.Defers
import Derived.Recover
import Derived.WideLaws
namespace Go.Proofs.YtiiepdgpnnjpiaaDoor
open Go.RowKit

set_option maxRecDepth 100000
theorem same_back {P : Program} {f : FuncId} {args : Array Value} {w : World} {v : Value} (h : Calls P f args w fun e w' => e = .returned v ∧ w = w') : Calls P f args w fun e w' => e = .returned v ∧ w' = w :=
  h.mono fun _ _ h => ⟨h.1, h.2.symm⟩
theorem turn_trans {a b c : World} {row : Option Nat} (h : a.grownBy b row) (k : b.grownBy c row) : a.grownBy c row :=
  ⟨k.os.trans h.os, k.tape.trans h.tape, k.output.trans h.output, Nat.le_trans h.size k.size, fun i hi hr => (k.block i (Nat.lt_of_lt_of_le hi h.size) hr).trans (h.block i hi hr)⟩
theorem turn_set (w : World) (g i : Nat) (v : Value) : w.grownBy (w.setCell ⟨g, i, none⟩ v) (some g) :=
  ⟨rfl, rfl, rfl, by simp [World.setCell], fun _ _ hr => Below.heap_setCell _ _ _ _ (fun e => hr (by rw [e]))⟩
theorem turn_alloc (w : World) (o : Obj) (row : Option Nat) : w.grownBy (w.alloc o) row := World.grownBy_alloc w o row
theorem turn_drewN (w : World) (n : Nat) (row : Option Nat) : w.grownBy (w.drewN n) row := ⟨rfl, rfl, rfl, Nat.le_refl _, fun _ _ _ => rfl⟩
/-- Own memory behind what turns a block of it. -/
theorem turn_below {B : Nat} {w w' : World} {g : Nat} (h : w.grownBy w' (some g)) (hg : B ≤ g) (hB : B ≤ w.heap.size) : Below B w w' :=
  ⟨h.os, h.tape, h.output, h.size, fun k hk => h.block k (by omega) (by simp; omega)⟩
theorem catch_idle (p : Addr) (w : World) :
    CallsD Tryd.prog 97 #[.pointer (some p)] .returning w fun e u' w' => e = .returned (.tuple #[]) ∧ u' = .returning ∧ w' = w := by
  refine callsD_of_wpS Tryd.func97 rfl fun c₀ cs hu => ?_
  apply wpS_seq
  apply wpS_region
  simp [wpOpsS, go_sem, recoverD, hu, Tryd.ntmps97, Exit.thenS]
  refine wpS_of_wp ?_
  go_wp2
  cases c₀
  simp_all [bodyPostS, results, Tryd.results97]
/-- What the type switch asks of a stop. -/
theorem stop_is (v : Value) (w : World) : (Instr.typeAssert (.iface 131 v) 20 131 true).run Tryd.prog w = .ok (.tuple #[v, .bool true]) w := by
  kernel_rfl
theorem stop_not_nil (v : Value) (w : World) : (binOp .eql 20 (.iface 131 v) .nilIface).run Tryd.prog w = .ok (.bool false) w :=
  run_eql_held_nil _ _ _ _ (by kernel_rfl)
theorem catch_stop (b g : Nat) (er x : Int) (older : List PanicEntry) (w : World) (hp : w.cell? ⟨b, 0, none⟩ = some (.pointer (some ⟨g, 0, none⟩))) (hc : w.cell? ⟨g, 17, none⟩ = some (.int .i64 x)) (hz : w.frozen? ⟨g, 17, none⟩ = false) :
    CallsD Tryd.prog 97 #[.pointer (some ⟨b, 0, none⟩)] (.panicking ({ v := .iface 131 (.agg #[.int .i64 er]), recovered := false } :: older)) w fun e u' w' =>
      e = .returned (.tuple #[]) ∧ u' = .panicking ({ v := .iface 131 (.agg #[.int .i64 er]), recovered := true } :: older) ∧ w' = (w.setCell ⟨g, 17, none⟩ (.int .i64 er)).alloc (.cells #[.int .i64 er] 131) := by
  have hb := World.block_lt_of_cell? w _ hp
  have hg := World.block_lt_of_cell? w _ hc
  refine callsD_of_wpS Tryd.func97 rfl fun c₀ cs hu => ?_
  apply wpS_seq
  apply wpS_region
  simp [wpOpsS, go_sem, recoverD, hu, Tryd.ntmps97, Exit.thenS]
  refine wpS_of_wp ?_
  generalize hQ : bodyPostS _ _ _ _ _ = Q
  have HU := hid hu
  have HQ := hid hQ
  have f1 := stop_is (.agg #[.int .i64 er])
  have f2 := stop_not_nil (.agg #[.int .i64 er])
  clear hu hQ
  rw [show (#[Value.pointer (some ⟨b, 0, none⟩)] ++ (Array.replicate 14 undef).setIfInBounds 3 (.iface 131 (.agg #[.int .i64 er])) : Array Value) = #[.pointer (some ⟨b, 0, none⟩), undef, undef, undef, .iface 131 (.agg #[.int .i64 er]), undef, undef, undef, undef, undef, undef, undef, undef, undef, undef] from rfl]
  go_wp2
  rw [← HQ.out]
  simp [bodyPostS, results, Tryd.results97]
/-! ### a cursor that was opened -/
def curCells (bs : List Int) (sz at_ er : Int) : List Value := bs.map (Value.int .u8) ++ [.int .i64 sz, .int .i64 at_, .int .i64 er, .bool true]
/-- Block g is a cursor over sz of the bytes bs, at a place, with an error. -/
def CurAt (w : World) (g : Nat) (bs : List Int) (sz at_ er : Int) : Prop :=
  bs.length = 15 ∧ isBytes bs ∧ w.heap[g]? = some (.cells (curCells bs sz at_ er).toArray 96 (0, 0))
section
variable {w w' : World} {g : Nat} {bs : List Int} {sz at_ er : Int}
theorem CurAt.lt (h : CurAt w g bs sz at_ er) : g < w.heap.size := by
  rcases Nat.lt_or_ge g w.heap.size with hlt | hge
  · exact hlt
  · have := h.2.2; rw [Array.getElem?_eq_none hge] at this; cases this
theorem CurAt.below {B : Nat} (h : CurAt w g bs sz at_ er) (hb : Below B w w') (hg : g < B) : CurAt w' g bs sz at_ er := ⟨h.1, h.2.1, (hb.block g hg).trans h.2.2⟩
theorem CurAt.cell (h : CurAt w g bs sz at_ er) (i : Nat) : w.cell? ⟨g, i, none⟩ = (curCells bs sz at_ er)[i]? := by
  rw [cell_of_row w g i _ _ (0, 0) h.2.2]; simp
theorem CurAt.size_ (h : CurAt w g bs sz at_ er) : w.cell? ⟨g, 15, none⟩ = some (.int .i64 sz) := by rw [h.cell, curCells, List.getElem?_append_right (by simp [h.1])]; simp [h.1]
theorem CurAt.place_ (h : CurAt w g bs sz at_ er) : w.cell? ⟨g, 16, none⟩ = some (.int .i64 at_) := by rw [h.cell, curCells, List.getElem?_append_right (by simp [h.1])]; simp [h.1]
theorem CurAt.err_ (h : CurAt w g bs sz at_ er) : w.cell? ⟨g, 17, none⟩ = some (.int .i64 er) := by rw [h.cell, curCells, List.getElem?_append_right (by simp [h.1])]; simp [h.1]
theorem CurAt.opened_ (h : CurAt w g bs sz at_ er) : w.cell? ⟨g, 18, none⟩ = some (.bool true) := by rw [h.cell, curCells, List.getElem?_append_right (by simp [h.1])]; simp [h.1]
theorem CurAt.byte_ (h : CurAt w g bs sz at_ er) (i : Nat) (hi : i < 15) : w.cell? ⟨g, i, none⟩ = some (.int .u8 (bs[i]?.getD 0)) := by
  have hl : i < bs.length := by rw [h.1]; exact hi
  rw [h.cell, curCells, List.getElem?_append_left (by simpa using hl)]; simp [hl]
theorem CurAt.frozen (h : CurAt w g bs sz at_ er) (i : Nat) : w.frozen? ⟨g, i, none⟩ = false := by
  have := h.2.2
  simp [World.frozen?, this]
theorem CurAt.mem (h : CurAt w g bs sz at_ er) (n : Nat) : Mem w (g + 1) (some ⟨g, 0, none⟩) (bs.take n) :=
  Mem.take ⟨h.2.1, .inr ⟨g, 0, rfl, Nat.lt_succ_self g, fun i hi => by rw [Nat.zero_add]; exact h.byte_ i (by rw [h.1] at hi; exact hi)⟩⟩ n
theorem CurAt.set_at (h : CurAt w g bs sz at_ er) (x : Int) : CurAt (w.setCell ⟨g, 16, none⟩ (.int .i64 x)) g bs sz x er := by
  refine ⟨h.1, h.2.1, ?_⟩
  have hg := h.2.2
  simp only [World.setCell, Array.getElem?_modify, hg, if_true, Option.map_some]
  simp [curCells, List.set_append_right, h.1]
theorem CurAt.set_err (h : CurAt w g bs sz at_ er) (x : Int) : CurAt (w.setCell ⟨g, 17, none⟩ (.int .i64 x)) g bs sz at_ x := by
  refine ⟨h.1, h.2.1, ?_⟩
  have hg := h.2.2
  simp only [World.setCell, Array.getElem?_modify, hg, if_true, Option.map_some]
  simp [curCells, List.set_append_right, h.1]
theorem CurAt.set_size (h : CurAt w g bs sz at_ er) (x : Int) : CurAt (w.setCell ⟨g, 15, none⟩ (.int .i64 x)) g bs x at_ er := by
  refine ⟨h.1, h.2.1, ?_⟩
  have hg := h.2.2
  simp only [World.setCell, Array.getElem?_modify, hg, if_true, Option.map_some]
  simp [curCells, List.set_append_right, h.1]
theorem CurAt.drewN (h : CurAt w g bs sz at_ er) (n : Nat) : CurAt (w.drewN n) g bs sz at_ er := h
end
theorem valid_yes (g : Nat) (bs : List Int) (sz at_ er : Int) (w : World) (h : CurAt w g bs sz at_ er) :
    Calls Tryd.prog 62 #[.pointer (some ⟨g, 0, none⟩)] w fun e w' => e = .returned (.bool true) ∧ w = w' := by
  have hc := h.opened_
  clear h
  go_enter Tryd.func62, Tryd.ntmps62
  go_wp2
  go_ret
  exact ⟨rfl, rfl⟩
theorem reads_any (g : Nat) (bs : List Int) (sz at_ er : Int) (w : World) (h : CurAt w g bs sz at_ er) :
    Calls Tryd.prog 85 #[.pointer (some ⟨g, 0, none⟩)] w fun e w' => e = .returned (.bool (er == 0)) ∧ w = w' := by
  have hc := h.err_
  have H := hid h
  clear h
  go_enter Tryd.func85, Tryd.ntmps85
  go_wp2_with (go_at_call 62; refine (valid_yes _ _ _ _ _ _ H.out).mono ?_; rintro e w' ⟨rfl, rfl⟩)
  go_ret
  exact ⟨rfl, rfl⟩
theorem cat_any (g : Nat) (bs : List Int) (sz at_ er : Int) (w : World) (h : CurAt w g bs sz at_ er) :
    Calls Tryd.prog 36 #[.pointer (some ⟨g, 0, none⟩)] w fun e w' => e = .returned (.int .i64 at_) ∧ w = w' := by
  have hc := h.place_
  have H := hid h
  clear h
  go_enter Tryd.func36, Tryd.ntmps36
  go_wp2_with (go_at_call 62; refine (valid_yes _ _ _ _ _ _ H.out).mono ?_; rintro e w' ⟨rfl, rfl⟩)
  go_ret
  exact ⟨rfl, rfl⟩
theorem err_any (g : Nat) (bs : List Int) (sz at_ er : Int) (w : World) (h : CurAt w g bs sz at_ er) :
    Calls Tryd.prog 60 #[.pointer (some ⟨g, 0, none⟩)] w fun e w' => e = .returned (.int .i64 er) ∧ w = w' := by
  have hc := h.err_
  have H := hid h
  clear h
  go_enter Tryd.func60, Tryd.ntmps60
  go_wp2_with (go_at_call 62; refine (valid_yes _ _ _ _ _ _ H.out).mono ?_; rintro e w' ⟨rfl, rfl⟩)
  go_ret
  exact ⟨rfl, rfl⟩
theorem take_ok (g : Nat) (bs : List Int) (sz a s : Nat) (sg : Bool) (w : World) (h : CurAt w g bs sz a 0) (hsz : sz ≤ 15) (hs : sizeOk s = true) (has : a + s ≤ sz) :
    Calls Tryd.prog 98 #[.pointer (some ⟨g, 0, none⟩), .int .i64 s, .bool sg] w fun e w' =>
      e = .returned (.int .i64 (getN (bs.take sz) a s sg)) ∧ ∃ n, w' = (w.setCell ⟨g, 16, none⟩ (.int .i64 ((a : Int) + s))).drewN n := by
  have h15 := h.size_
  have h16 := h.place_
  have hf16 := h.frozen 16
  have HM := hid (h.mem sz)
  have HL := hid (show (bs.take sz).length = sz by rw [List.length_take, h.1]; omega)
  have h8 := size_le hs
  have hE := getE_ok (bs.take sz) a s hs (by rw [HL.out]; omega)
  have b1 : (0 : Int) ≤ (sz : Int) := by omega
  have b2 : (sz : Int) ≤ 15 := by omega
  have hsz' : sz ≤ 9223372036854775807 := by omega
  clear h hs
  go_enter Tryd.func98, Tryd.ntmps98
  go_wp2_with fail
  go_quiet ((go_at_call 104; exact Calls.quiet_of_same (same_back (get_of _ _ _ (bs.take sz) _ _ _ _ HL.out ⟨_, HM.out.keep fun _ _ => rfl⟩ hsz' (by unfold I64; omega)))))
  go_wp2
  go_ret
  exact ⟨rfl, _, rfl⟩
theorem getE_cut (xs : List Int) (a s : Nat) (hs : sizeOk s = true) (h1 : a ≤ xs.length) (h2 : xs.length < a + s) : getE xs a s = 9 := by
  unfold getE
  rw [if_neg (by rw [hs]; simp), if_neg (by omega), if_pos (by omega)]
theorem take_stop (g : Nat) (bs : List Int) (sz a s : Nat) (sg : Bool) (w : World) (h : CurAt w g bs sz a 0) (hsz : sz ≤ 15) (hs : sizeOk s = true) (ha : a ≤ sz) (has : sz < a + s) :
    Calls Tryd.prog 98 #[.pointer (some ⟨g, 0, none⟩), .int .i64 s, .bool sg] w fun e w' =>
      e = .panicked [{ v := .iface 131 (.agg #[.int .i64 9]), recovered := false }] ∧ ∃ n, w' = w.drewN n := by
  have h15 := h.size_
  have h16 := h.place_
  have HM := hid (h.mem sz)
  have HL := hid (show (bs.take sz).length = sz by rw [List.length_take, h.1]; omega)
  have h8 := size_le hs
  have hE := getE_cut (bs.take sz) a s hs (by rw [HL.out]; omega) (by rw [HL.out]; omega)
  have b1 : (0 : Int) ≤ (sz : Int) := by omega
  have b2 : (sz : Int) ≤ 15 := by omega
  have hsz' : sz ≤ 9223372036854775807 := by omega
  clear h hs
  go_enter Tryd.func98, Tryd.ntmps98
  go_wp2_with fail
  go_quiet ((go_at_call 104; exact Calls.quiet_of_same (same_back (get_of _ _ _ (bs.take sz) _ _ _ _ HL.out ⟨_, HM.out.keep fun _ _ => rfl⟩ hsz' (by unfold I64; omega)))))
  go_wp2
  exact ⟨rfl, rfl, _, rfl⟩
/-! ### caught: either way -/
theorem caught_ok (g : Nat) (bs : List Int) (sz a s : Nat) (sg : Bool) (w : World) (h : CurAt w g bs sz a 0) (hsz : sz ≤ 15) (hs : sizeOk s = true) (has : a + s ≤ sz) :
    Calls Tryd.prog 87 #[.pointer (some ⟨g, 0, none⟩), .int .i64 s, .bool sg] w fun e w' =>
      e = .returned (.int .i64 (getN (bs.take sz) a s sg)) ∧ w.grownBy w' (some g) ∧ CurAt w' g bs sz (a + s : Nat) 0 := by
  have hmf : ∀ (fn : Fn) (first cap : Array Value) (w : World), (Instr.makeFunc fn first cap).run Tryd.prog w = .ok (.func fn first cap) w := fun _ _ _ _ => rfl
  have hlt := h.lt
  have H := hid h
  have HS := hid hs
  clear h hs
  go_enter_defers Tryd.func87, Tryd.ntmps87
  go_wp2_with fail
  refine (take_ok g bs sz a s sg _ (H.out.below ((Below.refl _ _).alloc (Nat.le_refl _) _) hlt) hsz HS.out has).mono ?_
  rintro e w' ⟨rfl, n, rfl⟩
  go_wp2
  refine leaves_cons (f := 97) (args := #[.pointer (some ⟨w.heap.size, 0, none⟩)]) (by simp) (by simp [go_sem]) ?_
  refine (catch_idle ⟨w.heap.size, 0, none⟩ _).mono ?_
  rintro e u' w'' ⟨rfl, rfl, rfl⟩
  refine ⟨_, results_tmp rfl _ _ _, rfl, ?_, ?_⟩
  · exact turn_trans (turn_trans (turn_set w g 16 _) (turn_alloc _ _ _)) (turn_drewN _ n _)
  · have h1 := (H.out.set_at ((a : Int) + s))
    rw [show (((a + s : Nat) : Int)) = (a : Int) + s by omega]
    exact (h1.below ((Below.refl _ _).alloc (Nat.le_refl _) _) h1.lt).drewN n
theorem caught_stop (g : Nat) (bs : List Int) (sz a s : Nat) (sg : Bool) (w : World) (h : CurAt w g bs sz a 0) (hsz : sz ≤ 15) (hs : sizeOk s = true) (ha : a ≤ sz) (has : sz < a + s) :
    Calls Tryd.prog 87 #[.pointer (some ⟨g, 0, none⟩), .int .i64 s, .bool sg] w fun e w' =>
      e = .returned (.int .i64 0) ∧ w.grownBy w' (some g) ∧ CurAt w' g bs sz a 9 := by
  have hmf : ∀ (fn : Fn) (first cap : Array Value) (w : World), (Instr.makeFunc fn first cap).run Tryd.prog w = .ok (.func fn first cap) w := fun _ _ _ _ => rfl
  have hlt := h.lt
  have H := hid h
  have HS := hid hs
  have h1 := hid (h.below ((Below.refl _ w).alloc (Nat.le_refl _) (.cells #[.pointer (some ⟨g, 0, none⟩)] 67)) hlt)
  clear h hs
  go_enter_defers Tryd.func87, Tryd.ntmps87
  go_wp2_with fail
  refine (take_stop g bs sz a s sg _ h1.out hsz HS.out ha has).mono ?_
  rintro e w' ⟨rfl, n, rfl⟩
  refine leaves_cons (f := 97) (args := #[.pointer (some ⟨w.heap.size, 0, none⟩)]) (by simp) (by simp [go_sem]) ?_
  refine (catch_stop w.heap.size g 9 0 [] _ ?_ ?_ ?_).mono ?_
  · show (w.alloc _).cell? _ = _
    rw [World.cell?_alloc_at _ _ _ _ rfl]; rfl
  · exact h1.out.err_
  · exact h1.out.frozen 17
  rintro e u' w'' ⟨rfl, rfl, rfl⟩
  have hB : w.grownBy (((w.alloc (.cells #[.pointer (some ⟨g, 0, none⟩)] 67)).drewN n).setCell ⟨g, 17, none⟩ (.int .i64 9)) (some g) := turn_trans (turn_trans (turn_alloc w _ _) (turn_drewN _ n _)) (turn_set _ g 17 _)
  have h2 := (h1.out.drewN n).set_err 9
  have h3 := h2.below ((Below.refl _ _).alloc (Nat.le_refl _) (.cells #[.int .i64 9] 131)) h2.lt
  have hB2 := turn_trans hB (turn_alloc _ (.cells #[.int .i64 9] 131) _)
  simp [Leaves, settle, results, Tryd.results87, go_sem]
  exact ⟨hB2, h3⟩
theorem int_ok (g : Nat) (bs : List Int) (sz a : Nat) (size : Int) (sg : Bool) (w : World) (h : CurAt w g bs sz a 0) (hsz : sz ≤ 15) (hs : sizeOk size = true) (has : (a : Int) + size ≤ sz) :
    Calls Tryd.prog 75 #[.pointer (some ⟨g, 0, none⟩), .int .i64 size, .bool sg] w fun e w' =>
      e = .returned (.int .i64 (getN (bs.take sz) a size sg)) ∧ w.grownBy w' (some g) ∧ CurAt w' g bs sz ((a : Int) + size) 0 := by
  have h8 := size_le hs
  obtain ⟨s, rfl⟩ := Int.eq_ofNat_of_zero_le (by omega : 0 ≤ size)
  have H := hid h
  clear h
  go_enter Tryd.func75, Tryd.ntmps75
  go_wp2_with (first | (go_at_call 85; refine (reads_any _ _ _ _ _ _ H.out).mono ?_; rintro e w' ⟨rfl, rfl⟩) | (go_at_call 86; refine (fsized_any _ _).mono ?_; rintro e w' ⟨rfl, rfl⟩))
  refine (caught_ok g bs sz a s sg _ H.out hsz hs (by omega)).mono ?_
  rintro e w1 ⟨rfl, hb, hc⟩
  have HB := hid hb
  have HC := hid hc
  clear hb hc
  go_wp2
  go_ret
  refine ⟨rfl, HB.out, ?_⟩
  have := HC.out
  rw [show (((a + s : Nat) : Int)) = (a : Int) + s by omega] at this
  exact this
theorem int_stop (g : Nat) (bs : List Int) (sz a : Nat) (size : Int) (sg : Bool) (w : World) (h : CurAt w g bs sz a 0) (hsz : sz ≤ 15) (hs : sizeOk size = true) (ha : a ≤ sz) (has : (sz : Int) < a + size) :
    Calls Tryd.prog 75 #[.pointer (some ⟨g, 0, none⟩), .int .i64 size, .bool sg] w fun e w' =>
      e = .returned (.int .i64 0) ∧ w.grownBy w' (some g) ∧ CurAt w' g bs sz a 9 := by
  have h8 := size_le hs
  obtain ⟨s, rfl⟩ := Int.eq_ofNat_of_zero_le (by omega : 0 ≤ size)
  have H := hid h
  clear h
  go_enter Tryd.func75, Tryd.ntmps75
  go_wp2_with (first | (go_at_call 85; refine (reads_any _ _ _ _ _ _ H.out).mono ?_; rintro e w' ⟨rfl, rfl⟩) | (go_at_call 86; refine (fsized_any _ _).mono ?_; rintro e w' ⟨rfl, rfl⟩))
  refine (caught_stop g bs sz a s sg _ H.out hsz hs ha (by omega)).mono ?_
  rintro e w1 ⟨rfl, hb, hc⟩
  have HB := hid hb
  have HC := hid hc
  clear hb hc
  go_wp2
  go_ret
  exact ⟨rfl, HB.out, HC.out⟩
theorem byte_ok (g : Nat) (bs : List Int) (sz a : Nat) (w : World) (h : CurAt w g bs sz a 0) (hsz : sz ≤ 15) (has : a < sz) :
    Calls Tryd.prog 59 #[.pointer (some ⟨g, 0, none⟩)] w fun e w' =>
      e = .returned (.int .i64 (getN (bs.take sz) a 1 false)) ∧ w.grownBy w' (some g) ∧ CurAt w' g bs sz ((a : Int) + 1) 0 := by
  have H := hid h
  clear h
  go_enter Tryd.func59, Tryd.ntmps59
  go_wp2_with fail
  refine (int_ok g bs sz a 1 false _ H.out hsz (by decide) (by omega)).mono ?_
  rintro e w1 ⟨rfl, hb, hc⟩
  have HB := hid hb
  have HC := hid hc
  clear hb hc
  go_wp2
  go_ret
  exact ⟨rfl, HB.out, HC.out⟩
theorem byte_stop (g : Nat) (bs : List Int) (sz : Nat) (w : World) (h : CurAt w g bs sz sz 0) (hsz : sz ≤ 15) :
    Calls Tryd.prog 59 #[.pointer (some ⟨g, 0, none⟩)] w fun e w' =>
      e = .returned (.int .i64 0) ∧ w.grownBy w' (some g) ∧ CurAt w' g bs sz sz 9 := by
  have H := hid h
  clear h
  go_enter Tryd.func59, Tryd.ntmps59
  go_wp2_with fail
  refine (int_stop g bs sz sz 1 false _ H.out hsz (by decide) (Nat.le_refl _) (by omega)).mono ?_
  rintro e w1 ⟨rfl, hb, hc⟩
  have HB := hid hb
  have HC := hid hc
  clear hb hc
  go_wp2
  go_ret
  exact ⟨rfl, HB.out, HC.out⟩
/-- What Open lays: the first bytes, 0 behind them. -/
def openBytes (xs : List Int) : List Int := xs.take 15 ++ List.replicate (15 - min xs.length 15) 0
theorem openBytes_length (xs : List Int) : (openBytes xs).length = 15 := by simp [openBytes]; omega
theorem openBytes_bytes {xs : List Int} (h : isBytes xs) : isBytes (openBytes xs) := by
  refine (h.take 15).append fun z hz => ?_
  have := (List.mem_replicate.1 hz).2
  omega
theorem drop_replicate {α : Type} (n k : Nat) (z : α) : (List.replicate n z).drop k = List.replicate (n - k) z := by simp
theorem open_splice (xs : List Int) (t : List Value) :
    splice ((List.replicate 15 (0 : Int)).map (Value.int .u8) ++ t) 0 ((xs.take 15).map (Value.int .u8)) = (openBytes xs).map (Value.int .u8) ++ t := by
  have hl : (xs.take 15).length = min 15 xs.length := List.length_take
  simp only [splice, openBytes, List.take_zero, List.nil_append, Nat.zero_add, List.length_map, List.map_append, List.append_assoc]
  congr 1
  rw [List.drop_append_of_le_length (by rw [List.length_map, List.length_replicate, hl]; omega), hl, Nat.min_comm, List.map_replicate, drop_replicate, List.map_replicate]
theorem wpList_copy_open {w : World} {ops : Array Oper} {rest : List Oper} {o : Oper} {a : Act} {Q : Exit → Act → World → Prop} (hgd : o.guard = none) (d s : Operand)
    (ho : o.op = .call { callee := .builtin .copy, args := #[d, s], argTypes := #[32, 32] })
    (g : Nat) (A : Option Addr) (m sCap : Nat) (xs : List Int) (B' : Nat) (hm : xs.length = m) (hd : a.eval d = .slice (some ⟨g, 0, none⟩) 15 15) (hs : a.eval s = .slice A m sCap)
    (hg : CurAt w g (List.replicate 15 0) 0 0 0) (hx : Mem w B' A xs) (B : Nat) (w0 : World) (hb : Below B w0 w) (hBg : B ≤ g)
    (h : ∀ w', Hid (CurAt w' g (openBytes xs) 0 0 0) → Below B w0 w' → wpList Tryd.prog ops Q rest (a.put o.dst (.int .i64 ((min m 15 : Nat) : Int))) w') :
    wpList Tryd.prog ops Q (o :: rest) a w := by
  subst hm
  have hl : ((xs.take 15).map (Value.int .u8)).length = min xs.length 15 := by rw [List.length_map, List.length_take, Nat.min_comm]
  refine wpList_copy_splice hgd d s 32 32 ho 5 Tryd.underlying32 (by kernel_rfl) (some ⟨g, 0, none⟩) A 15 15 xs.length sCap hd hs g 0 (curCells (List.replicate 15 0) 0 0 0) 96 hg.2.2
    ((xs.take 15).map (Value.int .u8)) hl ?_ (by rw [hl]; simp [curCells]; omega) (fun v hv => by obtain ⟨z, _, rfl⟩ := List.mem_map.1 hv; rfl) B w0 hb hBg ?_
  · intro hpos
    refine ⟨rfl, ?_⟩
    obtain ⟨_, rfl | ⟨b, o2, rfl, _, hc⟩⟩ := hx
    · simp at hpos
    · refine ⟨_, rfl, fun j v hj => ?_⟩
      have hadd : (⟨b, o2, none⟩ : Addr).add j = ⟨b, o2 + j, none⟩ := by unfold Addr.add; split <;> simp_all
      rw [hadd]
      simp only [List.getElem?_map, List.getElem?_take] at hj
      split at hj
      · rcases Nat.lt_or_ge j xs.length with hl | hl
        · rw [hc j hl, ← hj]; simp [hl]
        · rw [List.getElem?_eq_none hl] at hj; cases hj
      · cases hj
  · intro w' h1 h2
    have h3 := h1.out
    unfold curCells at h3
    rw [open_splice] at h3
    have := h w' (hid ⟨openBytes_length xs, openBytes_bytes hx.1, h3⟩) h2
    rw [hl]
    exact this
theorem copen_any (A : Option Addr) (c m : Nat) (xs : List Int) (w : World) (hm : xs.length = m) (hx : Mem w w.heap.size A xs) :
    Calls Tryd.prog 34 #[.slice A m c] w fun e w' =>
      e = .returned (.pointer (some ⟨w.heap.size, 0, none⟩)) ∧ Below w.heap.size w w' ∧ CurAt w' w.heap.size (openBytes xs) (min m 15 : Nat) 0 0 := by
  have HX := hid hx
  have HM := hid hm
  clear hx hm
  go_enter Tryd.func34, Tryd.ntmps34
  go_wp2_with (refine wpList_copy_open rfl _ _ rfl w.heap.size A m c xs w.heap.size HM.out rfl rfl ?c0 ?c1 w.heap.size w ((Below.refl _ _).alloc (Nat.le_refl _) _) (Nat.le_refl _) ?_)
  case c0 => exact ⟨by simp, by simp [isBytes], heap_alloc_new w _⟩
  case c1 => exact HX.out.keep fun p hp => World.cell?_alloc_lt w _ p hp
  intro w1 hg hb
  have h15 := hg.out.size_
  have hf := hg.out.frozen 15
  have HB := hid hb
  clear hb
  go_wp2
  go_ret
  exact ⟨rfl, HB.out.setCell (Nat.le_refl _) _, hg.out.set_size _⟩
end Go.Proofs.YtiiepdgpnnjpiaaDoor
