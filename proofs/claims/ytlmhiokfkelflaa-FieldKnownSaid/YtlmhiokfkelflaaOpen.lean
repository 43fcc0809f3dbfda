/-
  Cursors that were opened: Int, Byte, Peek, Open.
-/
import Derived.Test.YtlmhiokfkelflaaCaught
namespace Go.Proofs.Ytlmhiokfkelflaa
open Go.RowKit
theorem int_ok (g : Nat) (bs : List Int) (sz a : Nat) (size : Int) (sg : Bool) (w : World) (h : CurAt w g bs sz a 0) (hsz : sz ≤ 15) (hs : sizeOk size = true) (has : (a : Int) + size ≤ sz) :
    Calls Try.prog 26 #[.pointer (some ⟨g, 0, none⟩), .int .i64 size, .bool sg] w fun e w' =>
      e = .returned (.int .i64 (getN (bs.take sz) a size sg)) ∧ Below g w w' ∧ CurAt w' g bs sz ((a : Int) + size) 0 := by
  have h8 := size_le hs
  obtain ⟨s, rfl⟩ := Int.eq_ofNat_of_zero_le (by omega : 0 ≤ size)
  have H := hid h
  clear h
  go_enter Try.func26, Try.ntmps26
  go_wp2_with (first | (go_at_call 38; refine (reads_any _ _ _ _ _ _ H.out).mono ?_; rintro e w' ⟨rfl, rfl⟩) | (go_at_call 35; refine (sized_any _ _).mono ?_; rintro e w' ⟨rfl, rfl⟩))
  refine (caught_ok g bs sz a s sg _ H.out hsz hs (by omega)).mono ?_
  rintro e w1 ⟨rfl, hb, hc⟩
  have HB := hid hb
  have HC := hid hc
  clear hb hc
  go_wp2
  go_ret
  refine ⟨rfl, HB.out, ?_⟩
  have := HC.out
  rw [show (((a + s : Nat) : Int)) = (a : Int) + s by omega] at this
  exact this
theorem int_stop (g : Nat) (bs : List Int) (sz a : Nat) (size : Int) (sg : Bool) (w : World) (h : CurAt w g bs sz a 0) (hsz : sz ≤ 15) (hs : sizeOk size = true) (ha : a ≤ sz) (has : (sz : Int) < a + size) :
    Calls Try.prog 26 #[.pointer (some ⟨g, 0, none⟩), .int .i64 size, .bool sg] w fun e w' =>
      e = .returned (.int .i64 0) ∧ Below g w w' ∧ CurAt w' g bs sz a 9 := by
  have h8 := size_le hs
  obtain ⟨s, rfl⟩ := Int.eq_ofNat_of_zero_le (by omega : 0 ≤ size)
  have H := hid h
  clear h
  go_enter Try.func26, Try.ntmps26
  go_wp2_with (first | (go_at_call 38; refine (reads_any _ _ _ _ _ _ H.out).mono ?_; rintro e w' ⟨rfl, rfl⟩) | (go_at_call 35; refine (sized_any _ _).mono ?_; rintro e w' ⟨rfl, rfl⟩))
  refine (caught_stop g bs sz a s sg _ H.out hsz hs ha (by omega)).mono ?_
  rintro e w1 ⟨rfl, hb, hc⟩
  have HB := hid hb
  have HC := hid hc
  clear hb hc
  go_wp2
  go_ret
  exact ⟨rfl, HB.out, HC.out⟩
theorem byte_ok (g : Nat) (bs : List Int) (sz a : Nat) (w : World) (h : CurAt w g bs sz a 0) (hsz : sz ≤ 15) (has : a < sz) :
    Calls Try.prog 27 #[.pointer (some ⟨g, 0, none⟩)] w fun e w' =>
      e = .returned (.int .i64 (getN (bs.take sz) a 1 false)) ∧ Below g w w' ∧ CurAt w' g bs sz ((a : Int) + 1) 0 := by
  have H := hid h
  clear h
  go_enter Try.func27, Try.ntmps27
  go_wp2_with fail
  refine (int_ok g bs sz a 1 false _ H.out hsz (by decide) (by omega)).mono ?_
  rintro e w1 ⟨rfl, hb, hc⟩
  have HB := hid hb
  have HC := hid hc
  clear hb hc
  go_wp2
  go_ret
  exact ⟨rfl, HB.out, HC.out⟩
theorem byte_stop (g : Nat) (bs : List Int) (sz : Nat) (w : World) (h : CurAt w g bs sz sz 0) (hsz : sz ≤ 15) :
    Calls Try.prog 27 #[.pointer (some ⟨g, 0, none⟩)] w fun e w' =>
      e = .returned (.int .i64 0) ∧ Below g w w' ∧ CurAt w' g bs sz sz 9 := by
  have H := hid h
  clear h
  go_enter Try.func27, Try.ntmps27
  go_wp2_with fail
  refine (int_stop g bs sz sz 1 false _ H.out hsz (by decide) (Nat.le_refl _) (by omega)).mono ?_
  rintro e w1 ⟨rfl, hb, hc⟩
  have HB := hid hb
  have HC := hid hc
  clear hb hc
  go_wp2
  go_ret
  exact ⟨rfl, HB.out, HC.out⟩
theorem peek_ok (g : Nat) (bs : List Int) (sz a : Nat) (w : World) (h : CurAt w g bs sz a 0) (hsz : sz ≤ 15) (has : a < sz) :
    Calls Try.prog 25 #[.pointer (some ⟨g, 0, none⟩)] w fun e w' =>
      e = .returned (.tuple #[.int .i64 (bs[a]?.getD 0), .bool true]) ∧ ∃ n, w' = w.drewN n := by
  have h15 := h.size_
  have h16 := h.place_
  have hb := h.byte_ a (by omega)
  have hr := h.2.1.getD a
  have b0 : (0 : Int) ≤ (a : Int) := by omega
  have b1 : (a : Int) < 15 := by omega
  have b2 : (a : Int) < (sz : Int) := by omega
  have H := hid h
  clear h
  go_enter Try.func25, Try.ntmps25
  go_wp2_with fail
  go_quiet ((go_at_call 38; exact Calls.quiet_of_same (same_back (reads_any _ _ _ _ _ _ (H.out.drewN _)))))
  go_wp2
  go_quiet (fail)
  go_wp2
  go_ret2
  exact ⟨rfl, _, by rw [World.drewN_drewN]⟩

/-- What Open lays: the first bytes, 0 behind them. -/
def openBytes (xs : List Int) : List Int := xs.take 15 ++ List.replicate (15 - min xs.length 15) 0
theorem openBytes_length (xs : List Int) : (openBytes xs).length = 15 := by simp [openBytes]; omega
theorem openBytes_bytes {xs : List Int} (h : isBytes xs) : isBytes (openBytes xs) := by
  refine (h.take 15).append fun z hz => ?_
  have := (List.mem_replicate.1 hz).2
  omega
theorem drop_replicate {α : Type} (n k : Nat) (z : α) : (List.replicate n z).drop k = List.replicate (n - k) z := by simp
theorem open_splice (xs : List Int) (t : List Value) :
    splice ((List.replicate 15 (0 : Int)).map (Value.int .u8) ++ t) 0 ((xs.take 15).map (Value.int .u8)) = (openBytes xs).map (Value.int .u8) ++ t := by
  have hl : (xs.take 15).length = min 15 xs.length := List.length_take
  simp only [splice, openBytes, List.take_zero, List.nil_append, Nat.zero_add, List.length_map, List.map_append, List.append_assoc]
  congr 1
  rw [List.drop_append_of_le_length (by rw [List.length_map, List.length_replicate, hl]; omega), hl, Nat.min_comm, List.map_replicate, drop_replicate, List.map_replicate]
theorem wpList_copy_open {w : World} {ops : Array Oper} {rest : List Oper} {o : Oper} {a : Act} {Q : Exit → Act → World → Prop} (hgd : o.guard = none) (d s : Operand)
    (ho : o.op = .call { callee := .builtin .copy, args := #[d, s], argTypes := #[22, 22] })
    (g : Nat) (A : Option Addr) (m sCap : Nat) (xs : List Int) (B' : Nat) (hm : xs.length = m) (hd : a.eval d = .slice (some ⟨g, 0, none⟩) 15 15) (hs : a.eval s = .slice A m sCap)
    (hg : CurAt w g (List.replicate 15 0) 0 0 0) (hx : Mem w B' A xs) (B : Nat) (w0 : World) (hb : Below B w0 w) (hBg : B ≤ g)
    (h : ∀ w', Hid (CurAt w' g (openBytes xs) 0 0 0) → Below B w0 w' → wpList Try.prog ops Q rest (a.put o.dst (.int .i64 ((min m 15 : Nat) : Int))) w') :
    wpList Try.prog ops Q (o :: rest) a w := by
  subst hm
  have hl : ((xs.take 15).map (Value.int .u8)).length = min xs.length 15 := by rw [List.length_map, List.length_take, Nat.min_comm]
  refine wpList_copy_splice hgd d s 22 22 ho 5 Try.underlying22 (by kernel_rfl) (some ⟨g, 0, none⟩) A 15 15 xs.length sCap hd hs g 0 (curCells (List.replicate 15 0) 0 0 0) 38 hg.2.2
    ((xs.take 15).map (Value.int .u8)) hl ?_ (by rw [hl]; simp [curCells]; omega) (fun v hv => by obtain ⟨z, _, rfl⟩ := List.mem_map.1 hv; rfl) B w0 hb hBg ?_
  · intro hpos
    refine ⟨rfl, ?_⟩
    obtain ⟨_, rfl | ⟨b, o2, rfl, _, hc⟩⟩ := hx
    · simp at hpos
    · refine ⟨_, rfl, fun j v hj => ?_⟩
      have hadd : (⟨b, o2, none⟩ : Addr).add j = ⟨b, o2 + j, none⟩ := by unfold Addr.add; split <;> simp_all
      rw [hadd]
      simp only [List.getElem?_map, List.getElem?_take] at hj
      split at hj
      · rcases Nat.lt_or_ge j xs.length with hl | hl
        · rw [hc j hl, ← hj]; simp [hl]
        · rw [List.getElem?_eq_none hl] at hj; cases hj
      · cases hj
  · intro w' h1 h2
    have h3 := h1.out
    unfold curCells at h3
    rw [open_splice] at h3
    have := h w' (hid ⟨openBytes_length xs, openBytes_bytes hx.1, h3⟩) h2
    rw [hl]
    exact this
theorem open_any (A : Option Addr) (c m : Nat) (xs : List Int) (w : World) (hm : xs.length = m) (hx : Mem w w.heap.size A xs) :
    Calls Try.prog 34 #[.slice A m c] w fun e w' =>
      e = .returned (.pointer (some ⟨w.heap.size, 0, none⟩)) ∧ Below w.heap.size w w' ∧ CurAt w' w.heap.size (openBytes xs) (min m 15 : Nat) 0 0 := by
  have HX := hid hx
  have HM := hid hm
  clear hx hm
  go_enter Try.func34, Try.ntmps34
  go_wp2_with (refine wpList_copy_open rfl _ _ rfl w.heap.size A m c xs w.heap.size HM.out rfl rfl ?c0 ?c1 w.heap.size w ((Below.refl _ _).alloc (Nat.le_refl _) _) (Nat.le_refl _) ?_)
  case c0 => exact ⟨by simp, by simp [isBytes], heap_alloc_new w _⟩
  case c1 => exact HX.out.keep fun p hp => World.cell?_alloc_lt w _ p hp
  intro w1 hg hb
  have h15 := hg.out.size_
  have hf := hg.out.frozen 15
  have HB := hid hb
  clear hb
  go_wp2
  go_ret
  exact ⟨rfl, HB.out.setCell (Nat.le_refl _) _, hg.out.set_size _⟩
end Go.Proofs.Ytlmhiokfkelflaa
