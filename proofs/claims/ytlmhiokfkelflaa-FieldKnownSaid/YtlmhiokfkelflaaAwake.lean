/-
  What the document's examples say: puts, gets, awake.
-/
import Derived.Test.YtlmhiokfkelflaaKept
namespace Go.Proofs.Ytlmhiokfkelflaa
open Go.RowKit

theorem puts_yes (n size er : Int) (A : Option Addr) (m c : Nat) (xs : List Int) (w : World) (hn : I64 n) (he : putE n size = er) (hm : xs.length = m) (hx : Mem w w.heap.size A xs)
    (hxs : xs = if er = 0 then bytesOf n size.toNat else []) :
    Calls Try.prog 32 #[.int .i64 n, .int .i64 size, .int .i64 er, .slice A m c] w fun e w' => e = .returned (.bool true) ∧ Below w.heap.size w w' := by
  have HN := hid hn
  have HE := hid he
  have HM := hid hm
  have HX := hid hx
  have HS := hid hxs
  clear hn he hm hx hxs
  have h0 : (putE n size == er) = true := by rw [HE.out]; simp
  go_enter Try.func32, Try.ntmps32
  go_wp2_with fail
  refine (put_any n size w HN.out).mono ?_
  rintro e w1 ⟨B, s, rfl, hbel, hc⟩
  have HB := hid hbel
  have HC := hid hc
  clear hbel hc
  go_wp2_with fail
  obtain ⟨ys, hys, hyl, hyx⟩ : ∃ ys, Mem w1 w1.heap.size B ys ∧ ys.length = s ∧ ys = xs := by
    rcases HC.out with ⟨e0, es, rfl, hk⟩ | ⟨e0, rfl, rfl⟩
    · refine ⟨bytesOf n s, hk.mem (bytesOf_range _ _) hk.lt, bytesOf_length _ _, ?_⟩
      rw [HS.out, if_pos (by rw [← HE.out]; exact e0), show size.toNat = s by omega]
    · exact ⟨[], Mem.nil _ _ _, rfl, by rw [HS.out, if_neg (by rw [← HE.out]; exact e0)]⟩
  refine (same_of _ _ _ _ _ _ ys xs _ ⟨_, hys⟩ ⟨_, HX.out.below HB.out⟩ hyl HM.out).mono ?_
  rintro e w2 ⟨rfl, rfl⟩
  have HY := hid hyx
  clear hys hyl hyx
  go_wp2
  go_ret
  exact ⟨ret_b (by simp [HY.out]), HB.out⟩
theorem gets_any (A : Option Addr) (m c : Nat) (xs : List Int) (at_ size want er : Int) (sg : Bool) (w : World) (hm : xs.length = m) (hx : Mem w w.heap.size A xs) (hl : m ≤ 100000000) (hat : I64 at_) :
    Calls Try.prog 33 #[.slice A m c, .int .i64 at_, .int .i64 size, .bool sg, .int .i64 want, .int .i64 er] w
      fun e w' => e = .returned (.bool (getN xs at_ size sg == want && getE xs at_ size == er)) ∧ w = w' := by
  subst hm
  have HX := hid hx
  have HA := hid hat
  have hl' : xs.length ≤ 9223372036854775807 := by omega
  clear hx hat
  by_cases h1 : (getN xs at_ size sg == want) = true
  · go_enter Try.func33, Try.ntmps33
    go_wp2_with (go_at_call 11; refine (get_any _ _ _ _ _ _ _ _ HX.out hl' HA.out).mono ?_; rintro e w' ⟨rfl, rfl⟩)
    go_ret
    exact ⟨ret_b (by rw [h1]; rfl), rfl⟩
  · have h1' : (getN xs at_ size sg == want) = false := by simpa using h1
    clear h1
    go_enter Try.func33, Try.ntmps33
    go_wp2_with (go_at_call 11; refine (get_any _ _ _ _ _ _ _ _ HX.out hl' HA.out).mono ?_; rintro e w' ⟨rfl, rfl⟩)
    go_ret
    exact ⟨ret_b (by rw [h1']; rfl), rfl⟩
/-- A new block of bytes that are written out. -/
theorem lit_mem (w : World) (zs : List Int) (t : TypeId) (vs : Array Value) (h : (zs.map (Value.int .u8)).toArray = vs) (hz : isBytes zs) : Mem (w.alloc (.cells vs t)) (w.alloc (.cells vs t)).heap.size (some ⟨w.heap.size, 0, none⟩) zs := by
  subst h
  have : Blk (w.alloc (.cells (zs.map (Value.int .u8)).toArray t)) w.heap.size t zs := heap_alloc_new w _
  exact this.mem hz this.lt
theorem awake_any (w : World) :
    Calls Try.prog 24 #[] w fun e w' => e = .returned (.bool true) ∧ Below w.heap.size w w' := by
  have k1 : wideB 255 8 = true := by decide
  have k2 : (sgn 255 8 == -1) = true := by decide
  have k3 : (getN [1, 254, 255] 1 2 true == -2 && getE [1, 254, 255] 1 2 == 0) = true := by decide +kernel
  go_enter Try.func24, Try.ntmps24
  go_wp2_with fail
  refine (puts_yes 258 2 0 _ _ _ [2, 1] _ (by unfold I64; omega) (by decide) rfl (lit_mem _ _ _ _ rfl (by simp [isBytes])) (by decide)).mono ?_
  rintro e w1 ⟨rfl, h1⟩
  have H1 := hid h1
  clear h1
  go_wp2_with fail
  refine (puts_yes (-2) 2 0 _ _ _ [254, 255] _ (by unfold I64; omega) (by decide) rfl (lit_mem _ _ _ _ rfl (by simp [isBytes])) (by decide)).mono ?_
  rintro e w2 ⟨rfl, h2⟩
  have H2 := hid h2
  clear h2
  go_wp2_with fail
  refine (gets_any _ _ _ [1, 254, 255] _ _ _ _ _ _ rfl (lit_mem _ _ _ _ rfl (by simp [isBytes])) (by decide) (by unfold I64; omega)).mono ?_
  rintro e w3 ⟨rfl, rfl⟩
  rw [k3]
  go_wp2_with (first | (go_at_call 18; refine (wide_any _ _ _ (by unfold I64; omega)).mono ?_; rintro e w' ⟨rfl, rfl⟩) | (go_at_call 20; refine (sign_any _ _ _).mono ?_; rintro e w' ⟨rfl, rfl⟩))
  go_ret
  refine ⟨rfl, ?_⟩
  have s1 := H1.out.size
  have s2 := H2.out.size
  simp at s1 s2
  refine Below.alloc ?_ (by omega) _
  refine Below.trans ?_ (H2.out.mono (by simp; omega))
  refine Below.alloc ?_ (by omega) _
  refine Below.trans ?_ (H1.out.mono (by simp))
  exact (Below.refl _ _).alloc (Nat.le_refl _) _
end Go.Proofs.Ytlmhiokfkelflaa
