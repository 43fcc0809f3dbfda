/-
  The document's Check, whatever it is given.
-/
import Derived.Test.YtmlmdbholakioaaCheckRef1
import Derived.Test.YtmlmdbholakioaaCheckRef2
import Derived.Test.YtmlmdbholakioaaCheckRef3
namespace Go.Proofs.Ytmlmdbholakioaa
open Go.RowKit

theorem rcheck_any (bc bn ic ix s d z : Int) (w : World) :
    Calls Try.prog 58 #[.agg #[.int .i64 bc, .int .i64 bn, .int .i64 ic, .int .i64 ix, .int .i64 s, .int .i64 d, .int .i64 z]] w fun e w' => e = .returned (.int .i64 (checkF ⟨bc, bn, ic, ix, s, d, z⟩)) ∧ Below w.heap.size w w' := by
  by_cases h4 : d < -2147483648
  · rw [show checkF _ = 5 by simp [checkF, h4]]
    exact rcheck_low _ _ _ _ _ _ _ h4 w
  by_cases h5 : 2147483647 < d
  · rw [show checkF _ = 5 by simp [checkF, h5]]
    exact rcheck_high _ _ _ _ _ _ _ h4 h5 w
  cases hz : sizedF z
  · rw [show checkF _ = 2 by unfold checkF basedF indexedF stackF; simp_all]
    exact rcheck_size _ _ _ _ _ _ _ h4 h5 (hid hz) w
  cases hnb : noneF bc bn
  · cases hwb : wideF bc bn
    · by_cases h8 : bc = 8
      · subst h8
        by_cases h9 : bn = 0
        · subst h9
          cases hni : noneF ic ix
          · cases hwi : wideF ic ix
            · rw [show checkF _ = 2 by unfold checkF basedF indexedF stackF; simp_all]
              exact rcheckC_w0 _ _ _ _ _ h4 h5 (hid hz) (hid rfl) (hid rfl) (hid hni) (hid hwi) w
            cases hc : scaleF s
            · rw [show checkF _ = 2 by unfold checkF basedF indexedF stackF; simp_all]
              exact rcheckC_c0 _ _ _ _ _ h4 h5 (hid hz) (hid rfl) (hid rfl) (hid hni) (hid hwi) (hid hc) w
            rw [show checkF _ = 2 by unfold checkF basedF indexedF stackF; simp_all]
            exact rcheckC_c1 _ _ _ _ _ h4 h5 (hid hz) (hid rfl) (hid rfl) (hid hni) (hid hwi) (hid hc) w
          · obtain ⟨rfl, rfl⟩ : ic = 0 ∧ ix = 0 := by simpa [noneF] using hni
            by_cases hs : s = 0
            · subst hs
              rw [show checkF _ = 0 by unfold checkF basedF indexedF stackF; simp_all]
              exact rcheckC_n0 _ _ h4 h5 (hid hz) (hid rfl) (hid rfl) w
            · rw [show checkF _ = 2 by unfold checkF basedF indexedF stackF; simp_all]
              exact rcheckC_n1 _ _ _ h4 h5 (hid hz) (hid rfl) (hid rfl) hs w
        · rw [show checkF _ = 2 by unfold checkF basedF indexedF stackF; simp_all]
          exact rcheck_rips _ _ _ _ _ _ h4 h5 (hid hz) (hid hnb) (hid hwb) h9 w
      · rw [show checkF _ = 2 by unfold checkF basedF indexedF stackF; simp_all]
        exact rcheck_base _ _ _ _ _ _ _ h4 h5 (hid hz) (hid hnb) (hid hwb) h8 w
    · obtain rfl : bc = 5 := by simp [wideF] at hwb; exact hwb.1
      cases hni : noneF ic ix
      · cases hwi : wideF ic ix
        · rw [show checkF _ = 2 by unfold checkF basedF indexedF stackF; simp_all]
          exact rcheckB_w0 _ _ _ _ _ _ h4 h5 (hid hz) (hid hnb) (hid hwb) (hid hni) (hid hwi) w
        cases hc : scaleF s
        · rw [show checkF _ = 2 by unfold checkF basedF indexedF stackF; simp_all]
          exact rcheckB_c0 _ _ _ _ _ _ h4 h5 (hid hz) (hid hnb) (hid hwb) (hid hni) (hid hwi) (hid hc) w
        obtain rfl : ic = 5 := by simp [wideF] at hwi; exact hwi.1
        by_cases h6 : ix = 4
        · subst h6
          by_cases h7 : s = 1
          · subst h7
            by_cases h8 : bn = 4
            · subst h8
              rw [show checkF _ = 2 by unfold checkF basedF indexedF stackF; simp_all]
              exact rcheckB_u _ _ h4 h5 (hid hz) (hid hnb) (hid hwb) (hid hc) w
            · rw [show checkF _ = 0 by unfold checkF basedF indexedF stackF; simp_all]
              exact rcheckB_t _ _ _ h4 h5 (hid hz) (hid hnb) (hid hwb) (hid hni) (hid hwi) (hid hc) h8 w
          · rw [show checkF _ = 2 by unfold checkF basedF indexedF stackF; simp_all]
            exact rcheckB_s _ _ _ _ h4 h5 (hid hz) (hid hnb) (hid hwb) (hid hni) (hid hwi) (hid hc) h7 w
        · rw [show checkF _ = 0 by unfold checkF basedF indexedF stackF; simp_all]
          exact rcheckB_r _ _ _ _ _ h4 h5 (hid hz) (hid hnb) (hid hwb) (hid hni) (hid hwi) (hid hc) h6 w
      · obtain ⟨rfl, rfl⟩ : ic = 0 ∧ ix = 0 := by simpa [noneF] using hni
        by_cases hs : s = 0
        · subst hs
          rw [show checkF _ = 0 by unfold checkF basedF indexedF stackF; simp_all]
          exact rcheckB_n0 _ _ _ h4 h5 (hid hz) (hid hnb) (hid hwb) w
        · rw [show checkF _ = 2 by unfold checkF basedF indexedF stackF; simp_all]
          exact rcheckB_n1 _ _ _ _ h4 h5 (hid hz) (hid hnb) (hid hwb) hs w
  · obtain ⟨rfl, rfl⟩ : bc = 0 ∧ bn = 0 := by simpa [noneF] using hnb
    cases hni : noneF ic ix
    · cases hwi : wideF ic ix
      · rw [show checkF _ = 2 by unfold checkF basedF indexedF stackF; simp_all]
        exact rcheckA_w0 _ _ _ _ _ h4 h5 (hid hz) (hid rfl) (hid hni) (hid hwi) w
      cases hc : scaleF s
      · rw [show checkF _ = 2 by unfold checkF basedF indexedF stackF; simp_all]
        exact rcheckA_c0 _ _ _ _ _ h4 h5 (hid hz) (hid rfl) (hid hni) (hid hwi) (hid hc) w
      obtain rfl : ic = 5 := by simp [wideF] at hwi; exact hwi.1
      by_cases h6 : ix = 4
      · subst h6
        by_cases h7 : s = 1
        · subst h7
          rw [show checkF _ = 0 by unfold checkF basedF indexedF stackF; simp_all]
          exact rcheckA_t _ _ h4 h5 (hid hz) (hid rfl) (hid hni) (hid hwi) (hid hc) w
        · rw [show checkF _ = 2 by unfold checkF basedF indexedF stackF; simp_all]
          exact rcheckA_s _ _ _ h4 h5 (hid hz) (hid rfl) (hid hni) (hid hwi) (hid hc) h7 w
      · rw [show checkF _ = 0 by unfold checkF basedF indexedF stackF; simp_all]
        exact rcheckA_r _ _ _ _ h4 h5 (hid hz) (hid rfl) (hid hni) (hid hwi) (hid hc) h6 w
    · obtain ⟨rfl, rfl⟩ : ic = 0 ∧ ix = 0 := by simpa [noneF] using hni
      by_cases hs : s = 0
      · subst hs
        rw [show checkF _ = 0 by unfold checkF basedF indexedF stackF; simp_all]
        exact rcheckA_n0 _ _ h4 h5 (hid hz) (hid rfl) w
      · rw [show checkF _ = 2 by unfold checkF basedF indexedF stackF; simp_all]
        exact rcheckA_n1 _ _ _ h4 h5 (hid hz) (hid rfl) hs w
theorem rcheck_of {bc bn ic ix s d z k : Int} (h : checkF ⟨bc, bn, ic, ix, s, d, z⟩ = k) (w : World) :
    Calls Try.prog 58 #[.agg #[.int .i64 bc, .int .i64 bn, .int .i64 ic, .int .i64 ix, .int .i64 s, .int .i64 d, .int .i64 z]] w fun e w' => e = .returned (.int .i64 k) ∧ Below w.heap.size w w' := by
  have := rcheck_any bc bn ic ix s d z w
  rw [h] at this
  exact this
end Go.Proofs.Ytmlmdbholakioaa
