/-
  FieldKnown: the walk of the law.
-/
import Derived.Test.YtlmhiokfkelflaaOpen
namespace Go.Proofs.Ytlmhiokfkelflaa
open Go.RowKit
theorem gets_of (A : Option Addr) (m c : Nat) (xs : List Int) (at_ size want er : Int) (sg : Bool) (w : World) (hm : xs.length = m) (hx : Mem w w.heap.size A xs) (hl : m ≤ 100000000) (hat : I64 at_) (hy : (getN xs at_ size sg == want && getE xs at_ size == er) = true) :
    Calls Try.prog 33 #[.slice A m c, .int .i64 at_, .int .i64 size, .bool sg, .int .i64 want, .int .i64 er] w
      fun e w' => e = .returned (.bool true) ∧ w = w' := by
  have := gets_any A m c xs at_ size want er sg w hm hx hl hat
  rw [hy] at this
  exact this
theorem lit_at (w : World) (g : Nat) (zs : List Int) (t : TypeId) (vs : Array Value) (h : (zs.map (Value.int .u8)).toArray = vs) (hz : isBytes zs) (hg : g = w.heap.size) : Mem (w.alloc (.cells vs t)) (w.alloc (.cells vs t)).heap.size (some ⟨g, 0, none⟩) zs := by
  subst hg; exact lit_mem w zs t vs h hz
set_option maxRecDepth 100000 in
set_option maxHeartbeats 400000 in
theorem known_law (w : World) :
    Calls Try.prog 7 #[] w fun e w' => e = .returned (.bool true) ∧ Below w.heap.size w w' := by
  have k1 : fitsB 127 8 = true := by decide +kernel
  have k2 : fitsB 128 8 = false := by decide +kernel
  have k3 : wideB (-129) 8 = false := by decide +kernel
  have k4 : fitsB 0 65 = false := by decide +kernel
  have k5 : low (-1) 8 = 255 := by decide +kernel
  have k6 : sgn 5 0 = 0 := by decide +kernel
  go_enter Try.func7, Try.ntmps7
  go_wp2_with fail
  refine (puts_yes 65536 2 5 _ _ _ [] _ (by unfold I64; omega) (by decide +kernel) rfl (Mem.nil _ _ _) rfl).mono ?_
  rintro e w1 ⟨rfl, h1⟩
  have H1 := hid h1
  clear h1
  go_wp2_with fail
  refine (puts_yes 1 3 2 _ _ _ [] _ (by unfold I64; omega) (by decide +kernel) rfl (Mem.nil _ _ _) rfl).mono ?_
  rintro e w2 ⟨rfl, h2⟩
  have H2 := hid (H1.out.trans (h2.mono H1.out.size))
  clear h2
  go_wp2_with fail
  refine (gets_of _ _ _ [1, 254, 255] _ _ _ _ _ _ rfl (lit_at _ _ _ _ _ rfl (by simp [isBytes]) (by simp)) (by decide) (by unfold I64; omega) (by decide +kernel)).mono ?_
  rintro e w3 ⟨rfl, rfl⟩
  go_wp2_with fail
  refine (gets_of _ _ _ [1] _ _ _ _ _ _ rfl (lit_at _ _ _ _ _ rfl (by simp [isBytes]) (by simp)) (by decide) (by unfold I64; omega) (by decide +kernel)).mono ?_
  rintro e w3 ⟨rfl, rfl⟩
  go_wp2_with fail
  refine (gets_of _ _ _ [1] _ _ _ _ _ _ rfl (lit_at _ _ _ _ _ rfl (by simp [isBytes]) (by simp)) (by decide) (by unfold I64; omega) (by decide +kernel)).mono ?_
  rintro e w3 ⟨rfl, rfl⟩
  go_wp2_with (first | (go_at_call 16; refine (fits_any _ _ _).mono ?_; rintro e w' ⟨rfl, rfl⟩) | (go_at_call 18; refine (wide_any _ _ _ (by unfold I64; omega)).mono ?_; rintro e w' ⟨rfl, rfl⟩) | (go_at_call 20; refine (sign_any _ _ _).mono ?_; rintro e w' ⟨rfl, rfl⟩) | (go_at_call 22; refine (low_any _ _ _ (by unfold I64; omega)).mono ?_; rintro e w' ⟨rfl, rfl⟩))
  refine (open_any _ _ _ [7, 1, 0] _ rfl (lit_at _ _ _ _ _ rfl (by simp [isBytes]) (by simp))).mono ?_
  rintro e w3 ⟨rfl, hb, hc⟩
  have h2s := H2.out.size
  have hc3 : CurAt w3 (w2.heap.size + 1 + 1 + 1 + 1) (openBytes [7, 1, 0]) (3 : Nat) (0 : Nat) 0 := by simpa using hc
  have hb3 : Below w.heap.size w w3 := by
    refine Below.trans ?_ (hb.mono (by simp; omega))
    exact ((((H2.out).alloc h2s _).alloc (by simp; omega) _).alloc (by simp; omega) _).alloc (by simp; omega) _
  have hg3 : w.heap.size ≤ w2.heap.size + 1 + 1 + 1 + 1 := by omega
  clear hb hc h2s
  simp only [World.size_alloc]
  generalize w2.heap.size + 1 + 1 + 1 + 1 = g at *
  have HB3 := hid hb3
  have HC3 := hid hc3
  clear hb3 hc3
  go_wp2_with fail
  refine (peek_ok g _ 3 0 _ HC3.out (by decide) (by decide)).mono ?_
  rintro e w4 ⟨rfl, n, rfl⟩
  have HB4 := hid (below_drewN HB3.out n)
  have HC4 := hid (HC3.out.drewN n)
  generalize w3.drewN n = w4 at *
  have k7 : (openBytes [7, 1, 0])[0]?.getD 0 = 7 := by decide +kernel
  go_wp2_with fail
  refine (awake_any w4).mono ?_
  rintro e w5 ⟨rfl, hb⟩
  have HB5 := hid (HB4.out.trans (hb.mono HB4.out.size))
  have HC5 := hid (HC4.out.below hb HC4.out.lt)
  clear hb
  go_wp2_with fail
  refine (byte_ok g _ 3 0 _ HC5.out (by decide) (by decide)).mono ?_
  rintro e w6 ⟨rfl, hb, hc⟩
  have k8 : getN ((openBytes [7, 1, 0]).take 3) (0 : Nat) 1 false = 7 := by decide +kernel
  have HB6 := hid (HB5.out.trans (hb.mono hg3))
  have HC6 := hid (show CurAt w6 g (openBytes [7, 1, 0]) (3 : Nat) (1 : Nat) 0 from hc)
  clear hb hc
  go_wp2_with fail
  refine (int_ok g _ 3 1 2 false _ HC6.out (by decide) (by decide) (by decide)).mono ?_
  rintro e w7 ⟨rfl, hb, hc⟩
  have k9 : getN ((openBytes [7, 1, 0]).take 3) (1 : Nat) 2 false = 1 := by decide +kernel
  have HB7 := hid (HB6.out.trans (hb.mono hg3))
  have HC7 := hid (show CurAt w7 g (openBytes [7, 1, 0]) (3 : Nat) (3 : Nat) 0 from hc)
  clear hb hc
  go_wp2_with fail
  refine (byte_stop g _ 3 _ HC7.out (by decide)).mono ?_
  rintro e w8 ⟨rfl, hb, hc⟩
  have HB8 := hid (HB7.out.trans (hb.mono hg3))
  have HC8 := hid hc
  clear hb hc
  go_wp2_with (first | (go_at_call 29; refine (err_any _ _ _ _ _ _ HC8.out).mono ?_; rintro e w' ⟨rfl, rfl⟩) | (go_at_call 28; refine (at_any _ _ _ _ _ _ HC8.out).mono ?_; rintro e w' ⟨rfl, rfl⟩))
  go_ret
  exact ⟨rfl, HB8.out⟩
end Go.Proofs.Ytlmhiokfkelflaa
