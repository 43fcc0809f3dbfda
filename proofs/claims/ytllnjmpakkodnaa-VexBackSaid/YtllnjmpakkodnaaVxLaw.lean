/-
  Law 11: what its helpers answer: all, fails, awake.
-/
import Derived.Test.YtllnjmpakkodnaaVxKit
import Derived.Test.YtllnjmpakkodnaaVxEq
import Derived.Test.YtllnjmpakkodnaaVxAll
import Derived.Test.YtllnjmpakkodnaaVxReadAll
namespace Go.Proofs.Ytllnjmpakkodnaa
open Go.RowKit
set_option maxRecDepth 100000

theorem is_bytes {zs : List Int} (h : (zs.all fun z => decide (0 ≤ z) && decide (z < 256)) = true) : isBytes zs := by
  intro z hz
  have := List.all_eq_true.1 h z hz
  simpa using this
theorem ways_bytes {q : Vx} {any : Bool} {bs : List Int} (h : bs ∈ waysF q any) : isBytes bs := by
  unfold waysF at h
  cases hk : okF q
  · simp [hk] at h
  rw [if_pos hk] at h
  have hp := ok_parts hk
  have hz := ppF_range q.p
  have hw : wF q any = 0 ∨ wF q any = 1 := by unfold wF; split; exact .inl rfl; exact hp.2.2.2.1
  have h3 : ∀ w : Int, w = 0 ∨ w = 1 → isBytes (threeB q w) := by
    intro w hw z hz'
    simp only [threeB, List.mem_cons, List.not_mem_nil, or_false] at hz'
    omega
  have h2 : isBytes (twoB q) := by
    intro z hz'
    simp only [twoB, List.mem_cons, List.not_mem_nil, or_false] at hz'
    omega
  rcases List.mem_append.1 h with h | h
  · rcases List.mem_append.1 h with h | h
    · split at h
      · simp at h; subst h; exact h2
      · simp at h
    · simp at h; subst h; exact h3 _ hw
  · split at h
    · simp at h; subst h; exact h3 1 (.inr rfl)
    · simp at h
theorem vall_of {r x b m n v l p z : Int} {any : Bool} {L : List (List Int)} {k : Nat} (hL : waysF ⟨r, x, b, m, n, v, l, p⟩ any = L) (hz : errF ⟨r, x, b, m, n, v, l, p⟩ = z) (hk : L.length = k) (w : World) :
    Calls Try.prog 7 #[.agg (VC r x b m n v l p), .bool any] w fun e w' => ∃ A c, e = .returned (.tuple #[.slice A k c, .int .i64 z]) ∧ Below w.heap.size w w' ∧ LR w' A L ∧ k ≤ c ∧ c ≤ 9223372036854775807 ∧ ∃ Z, Lists w' w.heap.size (.slice A k c) Z ∧ Z.map Zr.bs = L :=
  (vall_any r x b m n v l p any w).mono fun e w' h => by
    obtain ⟨u, Z, rfl, hb, hl, hZ⟩ := h
    rw [hL] at hZ
    have hZk : Z.length = k := by rw [← hk, ← hZ, List.length_map]
    obtain ⟨A, c, rfl, h1, h2, h3⟩ := hl.read (fun z' hz' => ways_bytes (q := ⟨r, x, b, m, n, v, l, p⟩) (any := any) (by rw [hL, ← hZ]; exact List.mem_map_of_mem hz'))
    rw [hZk] at hl h1 ⊢
    rw [hZ] at h3
    exact ⟨A, c, by rw [hz], hb, h3, h1, h2, Z, hl, hZ⟩
set_option maxHeartbeats 1000000 in
theorem all_yes (r x b m n v l p : Int) (any : Bool) (L : List (List Int)) (k : Nat) (hL : waysF ⟨r, x, b, m, n, v, l, p⟩ any = L) (hz : errF ⟨r, x, b, m, n, v, l, p⟩ = 0) (hk : L.length = k) (h3 : k ≤ 3) (A : Option Addr) (c : Nat) (w : World) (hx : LR w A L) :
    Calls Try.prog 19 #[.agg (VC r x b m n v l p), .bool any, .slice A k c] w fun e w' => e = .returned (.bool true) ∧ Below w.heap.size w w' := by
  have H1 := hid hL
  have H2 := hid hz
  have H3 := hid hk
  have H4 := hid (show k ≤ 10 by omega)
  have HX := hid (hx.below ((Below.refl w.heap.size w).alloc (Nat.le_refl _) (.cells (VC r x b m n v l p) 23)))
  have HO := hid ((Own.nil w).alloc w.heap.size (VC r x b m n v l p) 23 rfl)
  clear hL hz hk hx h3
  go_enter Try.func19, Try.ntmps19
  go_wp2_with (first
    | (go_at_call 7; refine (vall_of H1.out H2.out H3.out _).mono ?_; rintro e w1 ⟨A1, c1, rfl, hb1, hr1, _, _, _⟩; have HB1 := hid (HO.out.below.trans (hb1.mono HO.out.below.size)); have HX1 := hid (HX.out.below hb1); have HR1 := hid hr1; clear hb1 hr1)
    | (go_at_call 11; refine (samelists_yes L k H3.out H4.out _ _ _ _ _ HR1.out HX1.out).mono ?_; rintro e w2 ⟨rfl, hb2⟩; have HB2 := hid (HB1.out.trans (hb2.mono HB1.out.size)); clear hb2))
  go_ret
  exact ⟨by simp, HB2.out⟩
theorem eql_self (r x b m n v l p : Int) (W : World) : (binOp .eql 23 (.agg #[.int .i64 r, .int .i64 x, .int .i64 b, .int .i64 m, .int .i64 n, .int .i64 v, .int .i64 l, .int .i64 p]) (.agg #[.int .i64 r, .int .i64 x, .int .i64 b, .int .i64 m, .int .i64 n, .int .i64 v, .int .i64 l, .int .i64 p])).run Try.prog W = .ok (.bool true) W :=
  run_eql_vex (p := ⟨r, x, b, m, n, v, l, p⟩) (q := ⟨r, x, b, m, n, v, l, p⟩) (vxEq_self _) W
theorem vread_of {zs : List Int} {r x b m' n v l p k er : Int} (h : readF zs = (⟨r, x, b, m', n, v, l, p⟩, k, er)) (A : Option Addr) (m c : Nat) (hm : zs.length = m) (hmc : m ≤ c) (hcl : c ≤ 9223372036854775807) (w : World) (hx : Mem w w.heap.size A zs) :
    Calls Try.prog 16 #[.slice A m c] w fun e w' => e = .returned (.tuple #[.agg #[.int .i64 r, .int .i64 x, .int .i64 b, .int .i64 m', .int .i64 n, .int .i64 v, .int .i64 l, .int .i64 p], .int .i64 k, .int .i64 er]) ∧ Below w.heap.size w w' := by
  have := vread_any A m c zs hm hmc hcl w hx
  rw [h] at this
  exact this
set_option maxHeartbeats 1000000 in
theorem fails_yes (er : Int) (A : Option Addr) (m c : Nat) (zs : List Int) (h : readF zs = (V0, 0, er)) (hm : zs.length = m) (hmc : m ≤ c) (hcl : c ≤ 9223372036854775807) (w : World) (hx : Mem w w.heap.size A zs) :
    Calls Try.prog 20 #[.int .i64 er, .slice A m c] w fun e w' => e = .returned (.bool true) ∧ Below w.heap.size w w' := by
  have HR := hid (vread_of h A m c hm hmc hcl w hx)
  have he := eql_self 0 0 0 0 0 0 0 0
  clear h hx hm hmc
  go_enter Try.func20, Try.ntmps20
  go_wp2_with (go_at_call 16; refine (HR.out).mono ?_; rintro e w1 ⟨rfl, hb1⟩; have HB := hid hb1; clear hb1)
  go_ret
  exact ⟨by simp, HB.out.alloc HB.out.size _⟩
theorem mem_new {W : World} {zs : List Int} (hz : isBytes zs) : Mem (W.alloc (.cells (zs.map (Value.int .u8)).toArray 5)) (W.alloc (.cells (zs.map (Value.int .u8)).toArray 5)).heap.size (some ⟨W.heap.size, 0, none⟩) zs :=
  ByB.mem (t := 5) (heap_alloc_new W _) hz (by simp)
theorem lr_two (w : World) (a b : List Int) (ha : isBytes a) (hb : isBytes b) :
    LR (((w.alloc (.cells (a.map (Value.int .u8)).toArray 5)).alloc (.cells (b.map (Value.int .u8)).toArray 5)).alloc (.cells #[.slice (some ⟨w.heap.size, 0, none⟩) a.length a.length, .slice (some ⟨w.heap.size + 1, 0, none⟩) b.length b.length] 31)) (some ⟨w.heap.size + 1 + 1, 0, none⟩) [a, b] := by
  have o := (((Own.nil w).alloc w.heap.size (a.map (Value.int .u8)).toArray 5 rfl).alloc (w.heap.size + 1) (b.map (Value.int .u8)).toArray 5 (by simp)).alloc (w.heap.size + 1 + 1) #[.slice (some ⟨w.heap.size, 0, none⟩) a.length a.length, .slice (some ⟨w.heap.size + 1, 0, none⟩) b.length b.length] 31 (by simp)
  generalize ((w.alloc (.cells (a.map (Value.int .u8)).toArray 5)).alloc (.cells (b.map (Value.int .u8)).toArray 5)).alloc (.cells #[.slice (some ⟨w.heap.size, 0, none⟩) a.length a.length, .slice (some ⟨w.heap.size + 1, 0, none⟩) b.length b.length] 31) = W at *
  have h0 : ByB W w.heap.size 5 a := (o.2.1 ⟨w.heap.size, (a.map (Value.int .u8)).toArray, 5⟩ (by simp)).2
  have h1 : ByB W (w.heap.size + 1) 5 b := (o.2.1 ⟨w.heap.size + 1, (b.map (Value.int .u8)).toArray, 5⟩ (by simp)).2
  refine .inr ⟨_, rfl, o.z, fun j l hj => ?_⟩
  rcases j with _ | _ | j
  · simp at hj; subst hj
    exact ⟨_, (o.c 0).trans rfl, h0.mem ha h0.lt⟩
  · simp at hj; subst hj
    exact ⟨_, (o.c 1).trans rfl, h1.mem hb h1.lt⟩
  · simp at hj
theorem all_23 (r x b m n v l p : Int) (any : Bool) (a0 a1 b0 b1 b2 : Int) (hL : waysF ⟨r, x, b, m, n, v, l, p⟩ any = [[a0, a1], [b0, b1, b2]]) (hz : errF ⟨r, x, b, m, n, v, l, p⟩ = 0) (w : World) (q0 q1 q2 : Nat) (h0 : q0 = w.heap.size) (h1 : q1 = w.heap.size + 1) (h2 : q2 = w.heap.size + 1 + 1) :
    Calls Try.prog 19 #[.agg (VC r x b m n v l p), .bool any, .slice (some ⟨q2, 0, none⟩) 2 2] (((w.alloc (.cells #[.int .u8 a0, .int .u8 a1] 5)).alloc (.cells #[.int .u8 b0, .int .u8 b1, .int .u8 b2] 5)).alloc (.cells #[.slice (some ⟨q0, 0, none⟩) 2 2, .slice (some ⟨q1, 0, none⟩) 3 3] 31)) fun e w' => e = .returned (.bool true) ∧ Below w.heap.size w w' := by
  subst h0 h1 h2
  exact (all_yes r x b m n v l p any _ 2 hL hz rfl (by omega) _ 2 _ (lr_two w [a0, a1] [b0, b1, b2] (ways_bytes (by rw [hL]; simp)) (ways_bytes (by rw [hL]; simp)))).mono fun e w' h => ⟨h.1, ((((Below.refl w.heap.size w).alloc (Nat.le_refl _) _).alloc (by simp) _).alloc (by simp; omega) _).trans (h.2.mono (by simp; omega))⟩
theorem all_33 (r x b m n v l p : Int) (any : Bool) (a0 a1 a2 b0 b1 b2 : Int) (hL : waysF ⟨r, x, b, m, n, v, l, p⟩ any = [[a0, a1, a2], [b0, b1, b2]]) (hz : errF ⟨r, x, b, m, n, v, l, p⟩ = 0) (w : World) (q0 q1 q2 : Nat) (h0 : q0 = w.heap.size) (h1 : q1 = w.heap.size + 1) (h2 : q2 = w.heap.size + 1 + 1) :
    Calls Try.prog 19 #[.agg (VC r x b m n v l p), .bool any, .slice (some ⟨q2, 0, none⟩) 2 2] (((w.alloc (.cells #[.int .u8 a0, .int .u8 a1, .int .u8 a2] 5)).alloc (.cells #[.int .u8 b0, .int .u8 b1, .int .u8 b2] 5)).alloc (.cells #[.slice (some ⟨q0, 0, none⟩) 3 3, .slice (some ⟨q1, 0, none⟩) 3 3] 31)) fun e w' => e = .returned (.bool true) ∧ Below w.heap.size w w' := by
  subst h0 h1 h2
  exact (all_yes r x b m n v l p any _ 2 hL hz rfl (by omega) _ 2 _ (lr_two w [a0, a1, a2] [b0, b1, b2] (ways_bytes (by rw [hL]; simp)) (ways_bytes (by rw [hL]; simp)))).mono fun e w' h => ⟨h.1, ((((Below.refl w.heap.size w).alloc (Nat.le_refl _) _).alloc (by simp) _).alloc (by simp; omega) _).trans (h.2.mono (by simp; omega))⟩
theorem fails_1 (er a : Int) (h : readF [a] = (V0, 0, er)) (ha : 0 ≤ a ∧ a < 256) (w : World) :
    Calls Try.prog 20 #[.int .i64 er, .slice (some ⟨w.heap.size, 0, none⟩) 1 1] (w.alloc (.cells #[.int .u8 a] 5)) fun e w' => e = .returned (.bool true) ∧ Below w.heap.size w w' :=
  (fails_yes er _ 1 1 [a] h rfl (by omega) (by omega) _ (mem_new (zs := [a]) (by intro z hz; simp at hz; subst hz; exact ha))).mono fun e w' h => ⟨h.1, ((Below.refl w.heap.size w).alloc (Nat.le_refl _) _).trans (h.2.mono (by simp))⟩
theorem fails_2 (er a b : Int) (h : readF [a, b] = (V0, 0, er)) (ha : 0 ≤ a ∧ a < 256) (hb : 0 ≤ b ∧ b < 256) (w : World) :
    Calls Try.prog 20 #[.int .i64 er, .slice (some ⟨w.heap.size, 0, none⟩) 2 2] (w.alloc (.cells #[.int .u8 a, .int .u8 b] 5)) fun e w' => e = .returned (.bool true) ∧ Below w.heap.size w w' :=
  (fails_yes er _ 2 2 [a, b] h rfl (by omega) (by omega) _ (mem_new (zs := [a, b]) (by intro z hz; simp at hz; rcases hz with rfl | rfl <;> assumption))).mono fun e w' h => ⟨h.1, ((Below.refl w.heap.size w).alloc (Nat.le_refl _) _).trans (h.2.mono (by simp))⟩
theorem read_2 (a b : Int) {r x b' m' n v l p k er : Int} (h : readF [a, b] = (⟨r, x, b', m', n, v, l, p⟩, k, er)) (ha : 0 ≤ a ∧ a < 256) (hb : 0 ≤ b ∧ b < 256) (w : World) :
    Calls Try.prog 16 #[.slice (some ⟨w.heap.size, 0, none⟩) 2 2] (w.alloc (.cells #[.int .u8 a, .int .u8 b] 5)) fun e w' => e = .returned (.tuple #[.agg #[.int .i64 r, .int .i64 x, .int .i64 b', .int .i64 m', .int .i64 n, .int .i64 v, .int .i64 l, .int .i64 p], .int .i64 k, .int .i64 er]) ∧ Below w.heap.size w w' :=
  (vread_of h _ 2 2 rfl (by omega) (by omega) _ (mem_new (zs := [a, b]) (by intro z hz; simp at hz; rcases hz with rfl | rfl <;> assumption))).mono fun e w' h => ⟨h.1, ((Below.refl w.heap.size w).alloc (Nat.le_refl _) _).trans (h.2.mono (by simp))⟩
theorem read_3 (a b c : Int) {r x b' m' n v l p k er : Int} (h : readF [a, b, c] = (⟨r, x, b', m', n, v, l, p⟩, k, er)) (ha : 0 ≤ a ∧ a < 256) (hb : 0 ≤ b ∧ b < 256) (hc : 0 ≤ c ∧ c < 256) (w : World) :
    Calls Try.prog 16 #[.slice (some ⟨w.heap.size, 0, none⟩) 3 3] (w.alloc (.cells #[.int .u8 a, .int .u8 b, .int .u8 c] 5)) fun e w' => e = .returned (.tuple #[.agg #[.int .i64 r, .int .i64 x, .int .i64 b', .int .i64 m', .int .i64 n, .int .i64 v, .int .i64 l, .int .i64 p], .int .i64 k, .int .i64 er]) ∧ Below w.heap.size w w' :=
  (vread_of h _ 3 3 rfl (by omega) (by omega) _ (mem_new (zs := [a, b, c]) (by intro z hz; simp at hz; rcases hz with rfl | rfl | rfl <;> assumption))).mono fun e w' h => ⟨h.1, ((Below.refl w.heap.size w).alloc (Nat.le_refl _) _).trans (h.2.mono (by simp))⟩
set_option maxHeartbeats 1000000 in
theorem awake_any (w : World) : Calls Try.prog 14 #[] w fun e w' => e = .returned (.bool true) ∧ Below w.heap.size w w' := by
  have H1 := hid (show readF [197, 248] = (⟨0, 0, 0, 1, 0, 0, 0, 0⟩, 2, 0) by decide +kernel)
  have H2 := hid (show waysF ⟨0, 0, 0, 1, 0, 0, 0, 0⟩ false = [[197, 248], [196, 225, 120]] ∧ errF ⟨0, 0, 0, 1, 0, 0, 0, 0⟩ = 0 by decide +kernel)
  have H3 := hid (show readF [15] = (V0, 0, 4) by decide +kernel)
  have he := eql_self 0 0 0 1 0 0 0 0
  go_enter Try.func14, Try.ntmps14
  go_wp2_with (first
    | (go_at_call 16; (with_reducible refine (read_2 197 248 H1.out (by decide) (by decide) _).mono ?_); rintro e w1 ⟨rfl, hb1⟩; have HO1 := hid (((Own.nil w).call hb1).alloc w1.heap.size #[.int .i64 0, .int .i64 0, .int .i64 0, .int .i64 1, .int .i64 0, .int .i64 0, .int .i64 0, .int .i64 0] 23 rfl); clear hb1)
    | (go_at_call 19; (with_reducible refine (all_23 0 0 0 1 0 0 0 0 false 197 248 196 225 120 H2.out.1 H2.out.2 _ _ _ _ (by simp) (by simp) (by simp)).mono ?_); rintro e w2 ⟨rfl, hb2⟩; have HO2 := hid (HO1.out.call hb2); have c2 := HO2.out.c; have z2 := HO2.out.z; clear hb2)
    | (go_at_call 20; (with_reducible refine (fails_1 4 15 H3.out (by decide) _).mono ?_); rintro e w3 ⟨rfl, hb3⟩; have HB3 := hid (HO2.out.below.trans (hb3.mono HO2.out.below.size)); clear hb3))
  go_ret
  exact ⟨rfl, HB3.out⟩
end Go.Proofs.Ytllnjmpakkodnaa
