/-
  Law 11: VexBack.
-/
import Derived.Test.YtllnjmpakkodnaaVxBackA
import Derived.Test.YtllnjmpakkodnaaVxBackB
import Derived.Test.YtllnjmpakkodnaaVxBackC
import Derived.Test.YtllnjmpakkodnaaVxBackD
import Derived.Test.YtllnjmpakkodnaaVxBackE
namespace Go.Proofs.Ytllnjmpakkodnaa
open Go.RowKit
set_option maxRecDepth 100000

set_option maxHeartbeats 1000000 in
theorem back_long (r x b m n v l p : Int) (any : Bool) (A : Option Addr) (ca lb : Nat) (w : World) (h20 : 20 < lb) :
    Calls Try.prog 6 #[.agg #[.int .i64 r, .int .i64 x, .int .i64 b, .int .i64 m, .int .i64 n, .int .i64 v, .int .i64 l, .int .i64 p], .bool any, .slice A lb ca] w fun e w' => e = .returned (.bool true) ∧ Below w.heap.size w w' := by
  have hl : (20 : Int) < (lb : Int) := by omega
  have HO := hid ((Own.nil w).alloc w.heap.size (VC r x b m n v l p) 23 rfl)
  go_enter Try.func6, Try.ntmps6
  go_wp2_with (go_at_call 5; refine (known_law _).mono ?_; rintro e w1 ⟨rfl, hb1⟩; have HO1 := hid (HO.out.call hb1); clear hb1)
  go_ret
  exact ⟨rfl, HO1.out.below⟩
theorem back_law (r x b m n v l p : Int) (any : Bool) (A : Option Addr) (ca : Nat) (xs : List Int) (w : World) (hx : Mem w w.heap.size A xs) (hca : xs.length ≤ ca) (hcm : ca ≤ 9223372036854775807) :
    Calls Try.prog 6 #[.agg #[.int .i64 r, .int .i64 x, .int .i64 b, .int .i64 m, .int .i64 n, .int .i64 v, .int .i64 l, .int .i64 p], .bool any, .slice A xs.length ca] w fun e w' => e = .returned (.bool true) ∧ Below w.heap.size w w' := by
  by_cases h20 : 20 < xs.length
  · exact back_long r x b m n v l p any A ca _ w h20
  have h20' : xs.length ≤ 20 := by omega
  rcases read_laid xs hx.1 any with ⟨h1, h2, h3⟩ | ⟨h1, h2, kn, j0, h3, h4, h5⟩
  · obtain ⟨⟨q, k, f⟩, hR⟩ : ∃ R, readF xs = R := ⟨_, rfl⟩
    rw [hR] at h1 h2 h3
    simp only at h1 h2 h3
    subst h2 h3
    cases hok : okF ⟨r, x, b, m, n, v, l, p⟩
    · exact back_nof r x b m n v l p any A ca xs _ w (by simp [errF, hok]) (by simp [waysF, hok]) hx rfl h20' hca hcm f hR h1
    · cases any
      · exact back_ok_falsef r x b m n v l p A ca xs _ _ _ w (by simp [errF, hok]) rfl rfl (backs hok) hx rfl h20' hca hcm f hR h1
      · exact back_ok_truef r x b m n v l p A ca xs _ _ _ w (by simp [errF, hok]) rfl rfl (backs hok) hx rfl h20' hca hcm f hR h1
  · obtain ⟨⟨⟨r', x', b', m', n', v', l', p'⟩, k, f⟩, hR⟩ : ∃ R, readF xs = R := ⟨_, rfl⟩
    rw [hR] at h1 h2 h3 h5
    simp only at h1 h2 h3 h5
    subst h1 h3
    have hkn0 : 1 ≤ kn := by
      have := ways_short (List.mem_of_getElem? h5)
      rw [List.length_take] at this
      omega
    have hok2 : errF ⟨r', x', b', m', n', v', l', p'⟩ = 0 := by simp [errF, h2]
    cases hok : okF ⟨r, x, b, m, n, v, l, p⟩
    · exact back_nor r x b m n v l p any A ca xs _ w (by simp [errF, hok]) (by simp [waysF, hok]) hx rfl h20' hca hcm r' x' b' m' n' v' l' p' kn _ j0 _ hR hok2 rfl rfl h4 hkn0 h5
    · cases any
      · exact back_ok_falser r x b m n v l p A ca xs _ _ _ w (by simp [errF, hok]) rfl rfl (backs hok) hx rfl h20' hca hcm r' x' b' m' n' v' l' p' kn _ j0 _ hR hok2 rfl rfl h4 hkn0 h5
      · exact back_ok_truer r x b m n v l p A ca xs _ _ _ w (by simp [errF, hok]) rfl rfl (backs hok) hx rfl h20' hca hcm r' x' b' m' n' v' l' p' kn _ j0 _ hR hok2 rfl rfl h4 hkn0 h5
end Go.Proofs.Ytllnjmpakkodnaa
