/-
  A cursor's number: where bytes are missing the reading stops by a panic, which is recovered in one place.
-/
import Derived.Test.YtlmhiokfkelflaaCur
import Derived.Test.YtlmhiokfkelflaaBackPlain
import Derived.Defers
import Derived.Recover
import Derived.WideLaws
namespace Go.Proofs.Ytlmhiokfkelflaa
open Go.RowKit
theorem catch_idle (p : Addr) (w : World) :
    CallsD Try.prog 41 #[.pointer (some p)] .returning w fun e u' w' => e = .returned (.tuple #[]) ∧ u' = .returning ∧ w' = w := by
  refine callsD_of_wpS Try.func41 rfl fun c₀ cs hu => ?_
  apply wpS_seq
  apply wpS_region
  simp [wpOpsS, go_sem, recoverD, hu, Try.ntmps41, Exit.thenS]
  refine wpS_of_wp ?_
  go_wp2
  cases c₀
  simp_all [bodyPostS, results, Try.results41]
/-- What the type switch asks of a stop. -/
theorem stop_is (v : Value) (w : World) : (Instr.typeAssert (.iface 54 v) 20 54 true).run Try.prog w = .ok (.tuple #[v, .bool true]) w := by
  kernel_rfl
theorem stop_not_nil (v : Value) (w : World) : (binOp .eql 20 (.iface 54 v) .nilIface).run Try.prog w = .ok (.bool false) w :=
  run_eql_held_nil _ _ _ _ (by kernel_rfl)
theorem catch_stop (b g : Nat) (er x : Int) (older : List PanicEntry) (w : World) (hp : w.cell? ⟨b, 0, none⟩ = some (.pointer (some ⟨g, 0, none⟩))) (hc : w.cell? ⟨g, 17, none⟩ = some (.int .i64 x)) (hz : w.frozen? ⟨g, 17, none⟩ = false) :
    CallsD Try.prog 41 #[.pointer (some ⟨b, 0, none⟩)] (.panicking ({ v := .iface 54 (.agg #[.int .i64 er]), recovered := false } :: older)) w fun e u' w' =>
      e = .returned (.tuple #[]) ∧ u' = .panicking ({ v := .iface 54 (.agg #[.int .i64 er]), recovered := true } :: older) ∧ w' = (w.setCell ⟨g, 17, none⟩ (.int .i64 er)).alloc (.cells #[.int .i64 er] 54) := by
  have hb := World.block_lt_of_cell? w _ hp
  have hg := World.block_lt_of_cell? w _ hc
  refine callsD_of_wpS Try.func41 rfl fun c₀ cs hu => ?_
  apply wpS_seq
  apply wpS_region
  simp [wpOpsS, go_sem, recoverD, hu, Try.ntmps41, Exit.thenS]
  refine wpS_of_wp ?_
  generalize hQ : bodyPostS _ _ _ _ _ = Q
  have HU := hid hu
  have HQ := hid hQ
  have f1 := stop_is (.agg #[.int .i64 er])
  have f2 := stop_not_nil (.agg #[.int .i64 er])
  clear hu hQ
  rw [show (#[Value.pointer (some ⟨b, 0, none⟩)] ++ (Array.replicate 14 undef).setIfInBounds 3 (.iface 54 (.agg #[.int .i64 er])) : Array Value) = #[.pointer (some ⟨b, 0, none⟩), undef, undef, undef, .iface 54 (.agg #[.int .i64 er]), undef, undef, undef, undef, undef, undef, undef, undef, undef, undef] from rfl]
  go_wp2
  rw [← HQ.out]
  simp [bodyPostS, results, Try.results41]

/-! ### a cursor that was opened -/
def curCells (bs : List Int) (sz at_ er : Int) : List Value := bs.map (Value.int .u8) ++ [.int .i64 sz, .int .i64 at_, .int .i64 er, .bool true]
/-- Block g is a cursor over sz of the bytes bs, at a place, with an error. -/
def CurAt (w : World) (g : Nat) (bs : List Int) (sz at_ er : Int) : Prop :=
  bs.length = 15 ∧ isBytes bs ∧ w.heap[g]? = some (.cells (curCells bs sz at_ er).toArray 38 (0, 0))
section
variable {w w' : World} {g : Nat} {bs : List Int} {sz at_ er : Int}
theorem CurAt.lt (h : CurAt w g bs sz at_ er) : g < w.heap.size := by
  rcases Nat.lt_or_ge g w.heap.size with hlt | hge
  · exact hlt
  · have := h.2.2; rw [Array.getElem?_eq_none hge] at this; cases this
theorem CurAt.below {B : Nat} (h : CurAt w g bs sz at_ er) (hb : Below B w w') (hg : g < B) : CurAt w' g bs sz at_ er := ⟨h.1, h.2.1, (hb.block g hg).trans h.2.2⟩
theorem CurAt.cell (h : CurAt w g bs sz at_ er) (i : Nat) : w.cell? ⟨g, i, none⟩ = (curCells bs sz at_ er)[i]? := by
  rw [cell_of_row w g i _ _ (0, 0) h.2.2]; simp
theorem CurAt.size_ (h : CurAt w g bs sz at_ er) : w.cell? ⟨g, 15, none⟩ = some (.int .i64 sz) := by rw [h.cell, curCells, List.getElem?_append_right (by simp [h.1])]; simp [h.1]
theorem CurAt.place_ (h : CurAt w g bs sz at_ er) : w.cell? ⟨g, 16, none⟩ = some (.int .i64 at_) := by rw [h.cell, curCells, List.getElem?_append_right (by simp [h.1])]; simp [h.1]
theorem CurAt.err_ (h : CurAt w g bs sz at_ er) : w.cell? ⟨g, 17, none⟩ = some (.int .i64 er) := by rw [h.cell, curCells, List.getElem?_append_right (by simp [h.1])]; simp [h.1]
theorem CurAt.opened_ (h : CurAt w g bs sz at_ er) : w.cell? ⟨g, 18, none⟩ = some (.bool true) := by rw [h.cell, curCells, List.getElem?_append_right (by simp [h.1])]; simp [h.1]
theorem CurAt.byte_ (h : CurAt w g bs sz at_ er) (i : Nat) (hi : i < 15) : w.cell? ⟨g, i, none⟩ = some (.int .u8 (bs[i]?.getD 0)) := by
  have hl : i < bs.length := by rw [h.1]; exact hi
  rw [h.cell, curCells, List.getElem?_append_left (by simpa using hl)]; simp [hl]
theorem CurAt.frozen (h : CurAt w g bs sz at_ er) (i : Nat) : w.frozen? ⟨g, i, none⟩ = false := by
  have := h.2.2
  simp [World.frozen?, this]
theorem CurAt.mem (h : CurAt w g bs sz at_ er) (n : Nat) : Mem w (g + 1) (some ⟨g, 0, none⟩) (bs.take n) :=
  Mem.take ⟨h.2.1, .inr ⟨g, 0, rfl, Nat.lt_succ_self g, fun i hi => by rw [Nat.zero_add]; exact h.byte_ i (by rw [h.1] at hi; exact hi)⟩⟩ n
theorem CurAt.set_at (h : CurAt w g bs sz at_ er) (x : Int) : CurAt (w.setCell ⟨g, 16, none⟩ (.int .i64 x)) g bs sz x er := by
  refine ⟨h.1, h.2.1, ?_⟩
  have hg := h.2.2
  simp only [World.setCell, Array.getElem?_modify, hg, if_true, Option.map_some]
  simp [curCells, List.set_append_right, h.1]
theorem CurAt.set_err (h : CurAt w g bs sz at_ er) (x : Int) : CurAt (w.setCell ⟨g, 17, none⟩ (.int .i64 x)) g bs sz at_ x := by
  refine ⟨h.1, h.2.1, ?_⟩
  have hg := h.2.2
  simp only [World.setCell, Array.getElem?_modify, hg, if_true, Option.map_some]
  simp [curCells, List.set_append_right, h.1]
theorem CurAt.set_size (h : CurAt w g bs sz at_ er) (x : Int) : CurAt (w.setCell ⟨g, 15, none⟩ (.int .i64 x)) g bs x at_ er := by
  refine ⟨h.1, h.2.1, ?_⟩
  have hg := h.2.2
  simp only [World.setCell, Array.getElem?_modify, hg, if_true, Option.map_some]
  simp [curCells, List.set_append_right, h.1]
theorem CurAt.drewN (h : CurAt w g bs sz at_ er) (n : Nat) : CurAt (w.drewN n) g bs sz at_ er := h
end

theorem valid_yes (g : Nat) (bs : List Int) (sz at_ er : Int) (w : World) (h : CurAt w g bs sz at_ er) :
    Calls Try.prog 40 #[.pointer (some ⟨g, 0, none⟩)] w fun e w' => e = .returned (.bool true) ∧ w = w' := by
  have hc := h.opened_
  clear h
  go_enter Try.func40, Try.ntmps40
  go_wp2
  go_ret
  exact ⟨rfl, rfl⟩
theorem reads_any (g : Nat) (bs : List Int) (sz at_ er : Int) (w : World) (h : CurAt w g bs sz at_ er) :
    Calls Try.prog 38 #[.pointer (some ⟨g, 0, none⟩)] w fun e w' => e = .returned (.bool (er == 0)) ∧ w = w' := by
  have hc := h.err_
  have H := hid h
  clear h
  go_enter Try.func38, Try.ntmps38
  go_wp2_with (go_at_call 40; refine (valid_yes _ _ _ _ _ _ H.out).mono ?_; rintro e w' ⟨rfl, rfl⟩)
  go_ret
  exact ⟨rfl, rfl⟩
theorem at_any (g : Nat) (bs : List Int) (sz at_ er : Int) (w : World) (h : CurAt w g bs sz at_ er) :
    Calls Try.prog 28 #[.pointer (some ⟨g, 0, none⟩)] w fun e w' => e = .returned (.int .i64 at_) ∧ w = w' := by
  have hc := h.place_
  have H := hid h
  clear h
  go_enter Try.func28, Try.ntmps28
  go_wp2_with (go_at_call 40; refine (valid_yes _ _ _ _ _ _ H.out).mono ?_; rintro e w' ⟨rfl, rfl⟩)
  go_ret
  exact ⟨rfl, rfl⟩
theorem err_any (g : Nat) (bs : List Int) (sz at_ er : Int) (w : World) (h : CurAt w g bs sz at_ er) :
    Calls Try.prog 29 #[.pointer (some ⟨g, 0, none⟩)] w fun e w' => e = .returned (.int .i64 er) ∧ w = w' := by
  have hc := h.err_
  have H := hid h
  clear h
  go_enter Try.func29, Try.ntmps29
  go_wp2_with (go_at_call 40; refine (valid_yes _ _ _ _ _ _ H.out).mono ?_; rintro e w' ⟨rfl, rfl⟩)
  go_ret
  exact ⟨rfl, rfl⟩
theorem take_ok (g : Nat) (bs : List Int) (sz a s : Nat) (sg : Bool) (w : World) (h : CurAt w g bs sz a 0) (hsz : sz ≤ 15) (hs : sizeOk s = true) (has : a + s ≤ sz) :
    Calls Try.prog 42 #[.pointer (some ⟨g, 0, none⟩), .int .i64 s, .bool sg] w fun e w' =>
      e = .returned (.int .i64 (getN (bs.take sz) a s sg)) ∧ ∃ n, w' = (w.setCell ⟨g, 16, none⟩ (.int .i64 ((a : Int) + s))).drewN n := by
  have h15 := h.size_
  have h16 := h.place_
  have hf16 := h.frozen 16
  have HM := hid (h.mem sz)
  have HL := hid (show (bs.take sz).length = sz by rw [List.length_take, h.1]; omega)
  have h8 := size_le hs
  have hE := getE_ok (bs.take sz) a s hs (by rw [HL.out]; omega)
  have b1 : (0 : Int) ≤ (sz : Int) := by omega
  have b2 : (sz : Int) ≤ 15 := by omega
  have hsz' : sz ≤ 9223372036854775807 := by omega
  clear h hs
  go_enter Try.func42, Try.ntmps42
  go_wp2_with fail
  go_quiet ((go_at_call 11; exact Calls.quiet_of_same (same_back (get_of _ _ _ (bs.take sz) _ _ _ _ HL.out ⟨_, HM.out.keep fun _ _ => rfl⟩ hsz' (by unfold I64; omega)))))
  go_wp2
  go_ret
  exact ⟨rfl, _, rfl⟩
theorem getE_cut (xs : List Int) (a s : Nat) (hs : sizeOk s = true) (h1 : a ≤ xs.length) (h2 : xs.length < a + s) : getE xs a s = 9 := by
  unfold getE
  rw [if_neg (by rw [hs]; simp), if_neg (by omega), if_pos (by omega)]
theorem take_stop (g : Nat) (bs : List Int) (sz a s : Nat) (sg : Bool) (w : World) (h : CurAt w g bs sz a 0) (hsz : sz ≤ 15) (hs : sizeOk s = true) (ha : a ≤ sz) (has : sz < a + s) :
    Calls Try.prog 42 #[.pointer (some ⟨g, 0, none⟩), .int .i64 s, .bool sg] w fun e w' =>
      e = .panicked [{ v := .iface 54 (.agg #[.int .i64 9]), recovered := false }] ∧ ∃ n, w' = w.drewN n := by
  have h15 := h.size_
  have h16 := h.place_
  have HM := hid (h.mem sz)
  have HL := hid (show (bs.take sz).length = sz by rw [List.length_take, h.1]; omega)
  have h8 := size_le hs
  have hE := getE_cut (bs.take sz) a s hs (by rw [HL.out]; omega) (by rw [HL.out]; omega)
  have b1 : (0 : Int) ≤ (sz : Int) := by omega
  have b2 : (sz : Int) ≤ 15 := by omega
  have hsz' : sz ≤ 9223372036854775807 := by omega
  clear h hs
  go_enter Try.func42, Try.ntmps42
  go_wp2_with fail
  go_quiet ((go_at_call 11; exact Calls.quiet_of_same (same_back (get_of _ _ _ (bs.take sz) _ _ _ _ HL.out ⟨_, HM.out.keep fun _ _ => rfl⟩ hsz' (by unfold I64; omega)))))
  go_wp2
  exact ⟨rfl, rfl, _, rfl⟩

/-! ### caught: either way -/
theorem caught_ok (g : Nat) (bs : List Int) (sz a s : Nat) (sg : Bool) (w : World) (h : CurAt w g bs sz a 0) (hsz : sz ≤ 15) (hs : sizeOk s = true) (has : a + s ≤ sz) :
    Calls Try.prog 39 #[.pointer (some ⟨g, 0, none⟩), .int .i64 s, .bool sg] w fun e w' =>
      e = .returned (.int .i64 (getN (bs.take sz) a s sg)) ∧ Below g w w' ∧ CurAt w' g bs sz (a + s : Nat) 0 := by
  have hmf : ∀ (fn : Fn) (first cap : Array Value) (w : World), (Instr.makeFunc fn first cap).run Try.prog w = .ok (.func fn first cap) w := fun _ _ _ _ => rfl
  have hlt := h.lt
  have H := hid h
  have HS := hid hs
  clear h hs
  go_enter_defers Try.func39, Try.ntmps39
  go_wp2_with fail
  refine (take_ok g bs sz a s sg _ (H.out.below ((Below.refl _ _).alloc (Nat.le_refl _) _) hlt) hsz HS.out has).mono ?_
  rintro e w' ⟨rfl, n, rfl⟩
  go_wp2
  refine leaves_cons (f := 41) (args := #[.pointer (some ⟨w.heap.size, 0, none⟩)]) (by simp) (by simp [go_sem]) ?_
  refine (catch_idle ⟨w.heap.size, 0, none⟩ _).mono ?_
  rintro e u' w'' ⟨rfl, rfl, rfl⟩
  refine ⟨_, results_tmp rfl _ _ _, rfl, ?_, ?_⟩
  · exact below_drewN (((Below.refl g w).setCell (p := ⟨g, 16, none⟩) (Nat.le_refl _) _).alloc (by simp [World.setCell]; omega) _) n
  · have h1 := (H.out.set_at ((a : Int) + s))
    rw [show (((a + s : Nat) : Int)) = (a : Int) + s by omega]
    exact (h1.below ((Below.refl _ _).alloc (Nat.le_refl _) _) h1.lt).drewN n
theorem caught_stop (g : Nat) (bs : List Int) (sz a s : Nat) (sg : Bool) (w : World) (h : CurAt w g bs sz a 0) (hsz : sz ≤ 15) (hs : sizeOk s = true) (ha : a ≤ sz) (has : sz < a + s) :
    Calls Try.prog 39 #[.pointer (some ⟨g, 0, none⟩), .int .i64 s, .bool sg] w fun e w' =>
      e = .returned (.int .i64 0) ∧ Below g w w' ∧ CurAt w' g bs sz a 9 := by
  have hmf : ∀ (fn : Fn) (first cap : Array Value) (w : World), (Instr.makeFunc fn first cap).run Try.prog w = .ok (.func fn first cap) w := fun _ _ _ _ => rfl
  have hlt := h.lt
  have H := hid h
  have HS := hid hs
  have h1 := hid (h.below ((Below.refl _ w).alloc (Nat.le_refl _) (.cells #[.pointer (some ⟨g, 0, none⟩)] 35)) hlt)
  clear h hs
  go_enter_defers Try.func39, Try.ntmps39
  go_wp2_with fail
  refine (take_stop g bs sz a s sg _ h1.out hsz HS.out ha has).mono ?_
  rintro e w' ⟨rfl, n, rfl⟩
  refine leaves_cons (f := 41) (args := #[.pointer (some ⟨w.heap.size, 0, none⟩)]) (by simp) (by simp [go_sem]) ?_
  refine (catch_stop w.heap.size g 9 0 [] _ ?_ ?_ ?_).mono ?_
  · show (w.alloc _).cell? _ = _
    rw [World.cell?_alloc_at _ _ _ _ rfl]; rfl
  · exact h1.out.err_
  · exact h1.out.frozen 17
  rintro e u' w'' ⟨rfl, rfl, rfl⟩
  have hB : Below g w (((w.alloc (.cells #[.pointer (some ⟨g, 0, none⟩)] 35)).drewN n).setCell ⟨g, 17, none⟩ (.int .i64 9)) := (below_drewN ((Below.refl g w).alloc (Nat.le_of_lt hlt) _) n).setCell (p := ⟨g, 17, none⟩) (Nat.le_refl _) _
  have h2 := (h1.out.drewN n).set_err 9
  have h3 := h2.below ((Below.refl _ _).alloc (Nat.le_refl _) (.cells #[.int .i64 9] 54)) h2.lt
  have hB2 := hB.alloc (by have := h2.lt; omega) (.cells #[.int .i64 9] 54)
  simp [Leaves, settle, results, Try.results39, go_sem]
  exact ⟨hB2, h3⟩
end Go.Proofs.Ytlmhiokfkelflaa
