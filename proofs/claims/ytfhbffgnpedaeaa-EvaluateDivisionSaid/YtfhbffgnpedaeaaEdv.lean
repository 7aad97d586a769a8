/- The quotient and the remainder. -/
import Derived.Test.YtfhbffgnpedaeaaEvv
namespace Go.Proofs.Ytfhbffgnpedaeaa
open Go.ChangeShapes Go.WideShapes Go.ChangeAt Go.RowKit Go.ChangeMaps

theorem divlaw (n b : Int) (hn : -2147483648 ≤ n ∧ n ≤ 2147483647) (hb : 1 ≤ b ∧ b ≤ 1000) : ∃ q m, binM 7 n b = iV q ∧ binM 8 n b = iV m ∧ q * b + m = n ∧ 0 ≤ m ∧ m < b ∧ -2147485000 ≤ q * b ∧ q * b ≤ 2147485000 := by
  have e7 : binM 7 n b = iV (qM n b) := by unfold binM; rw [if_neg (by decide), if_neg (by decide), if_neg (by decide), if_neg (by omega), if_pos rfl]
  have e8 : binM 8 n b = iV (wrap64 (n - wrap64 (b * qM n b))) := by unfold binM; rw [if_neg (by decide), if_neg (by decide), if_neg (by decide), if_neg (by omega), if_neg (by decide), if_pos rfl]
  rw [e7, e8]
  have hs := Int.mul_tdiv_add_tmod n b
  have ht := tdiv_bd n b hb.1 (by omega)
  have hr1 : Int.tmod n b < b := Int.tmod_lt_of_pos n (by omega)
  have hr2 : -b < Int.tmod n b := by
    rcases Int.le_total 0 n with h | h
    · have := Int.tmod_nonneg b h; omega
    · have h1 := Int.tmod_lt_of_pos (-n) (by omega : 0 < b)
      rw [Int.neg_tmod] at h1
      omega
  unfold qM
  generalize Int.tdiv n b = t at *
  generalize Int.tmod n b = r at *
  obtain ⟨p, hp⟩ : ∃ p, b * t = p := ⟨_, rfl⟩
  rw [hp] at hs
  by_cases h0 : r < 0
  · rw [if_pos h0]
    have hw : wrap64 (t - 1) = t - 1 := by
      rcases Int.le_total t (-9223372036854775808) with h | h
      · exfalso
        have : t = -9223372036854775808 := by omega
        subst this
        have h2 : b * -9223372036854775808 ≤ 1 * -9223372036854775808 := Int.mul_le_mul_of_nonpos_right hb.1 (by decide)
        omega
      · rcases Int.lt_or_eq_of_le h with h | h
        · exact IntWalk.wrap64_in _ (by omega)
        · exfalso
          rw [← h] at hp
          have h2 : b * -9223372036854775808 ≤ 1 * -9223372036854775808 := Int.mul_le_mul_of_nonpos_right hb.1 (by decide)
          omega
    rw [hw]
    have hm : b * (t - 1) = p - b := by rw [Int.mul_sub, hp, Int.mul_one]
    have hm2 : (t - 1) * b = p - b := by rw [Int.mul_comm]; exact hm
    rw [hm, IntWalk.wrap64_in (p - b) (by omega), IntWalk.wrap64_in _ (by omega)]
    exact ⟨t - 1, n - (p - b), rfl, rfl, by rw [hm2]; omega, by omega, by omega, by rw [hm2]; omega, by rw [hm2]; omega⟩
  · rw [if_neg h0]
    have hm2 : t * b = p := by rw [Int.mul_comm]; exact hp
    rw [hp, IntWalk.wrap64_in p (by omega), IntWalk.wrap64_in _ (by omega)]
    exact ⟨t, n - p, rfl, rfl, by rw [hm2]; omega, by omega, by omega, by rw [hm2]; omega, by rw [hm2]; omega⟩
end Go.Proofs.Ytfhbffgnpedaeaa
