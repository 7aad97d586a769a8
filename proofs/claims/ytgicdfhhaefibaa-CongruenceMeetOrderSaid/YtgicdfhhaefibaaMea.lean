/- What Meet returns for any two classes: four cases. -/
import Derived.Test.YtgicdfhhaefibaaMef
namespace Go.Proofs.Ytgicdfhhaefibaa
open Go.Sort Go.ChangeShapes Go.WideShapes Go.ChangeAt Go.RowKit

/-- The four cases of Meet. -/
def MeetF (r1 m1 r2 m2 x l : Int) (ok : Bool) (er : Int) : Prop :=
  ((vld r1 m1 && vld r2 m2) = false ∧ x = 0 ∧ l = 0 ∧ ok = false ∧ er = 1) ∨
  (vld r1 m1 = true ∧ vld r2 m2 = true ∧ ¬ ((Int.gcd m1 m2 : Nat) : Int) ∣ r2 - r1 ∧ x = 0 ∧ l = 0 ∧ ok = false ∧ er = 0) ∨
  (vld r1 m1 = true ∧ vld r2 m2 = true ∧ ((Int.gcd m1 m2 : Nat) : Int) ∣ r2 - r1 ∧ 4611686018427387904 < m1 * (m2 / (Int.gcd m1 m2 : Nat)) ∧ x = 0 ∧ l = 0 ∧ ok = false ∧ er = 3) ∨
  (vld r1 m1 = true ∧ vld r2 m2 = true ∧ ((Int.gcd m1 m2 : Nat) : Int) ∣ r2 - r1 ∧ m1 * (m2 / (Int.gcd m1 m2 : Nat)) ≤ 4611686018427387904 ∧ l = m1 * (m2 / (Int.gcd m1 m2 : Nat)) ∧ ok = true ∧ er = 0 ∧ 0 ≤ x ∧ x < l ∧ x % m1 = r1 ∧ x % m2 = r2)

theorem div_pos' (g m2 : Int) (g1 : 1 ≤ g) (h2 : 1 ≤ m2) (d : g ∣ m2) : 1 ≤ m2 / g := by
  obtain ⟨z, hz⟩ := d
  have hz2 : m2 / g = z := by rw [hz]; exact Int.mul_ediv_cancel_left _ (by omega)
  rw [hz2]
  have h0 : 0 ≤ z := by rw [← hz2]; exact Int.ediv_nonneg (by omega) (by omega)
  by_cases hz0 : z = 0
  · rw [hz0, Int.mul_zero] at hz; omega
  · omega

theorem quot_bd (g δ D : Int) (g1 : 1 ≤ g) (h : D = g * δ) (d1 : -4611686018427387904 ≤ D) (d2 : D ≤ 4611686018427387904) : -9223372036854775808 ≤ δ ∧ δ ≤ 9223372036854775807 := by
  by_cases hs : 0 ≤ δ
  · have := Int.mul_le_mul_of_nonneg_right g1 hs; omega
  · have := Int.mul_le_mul_of_nonneg_right g1 (show 0 ≤ -δ by omega)
    have e : g * -δ = -(g * δ) := Int.mul_neg _ _
    omega

theorem meet_any (r1 m1 r2 m2 : Int) : ∃ (x l : Int) (ok : Bool) (er : Int), MeetC r1 m1 r2 m2 x l ok er ∧ MeetF r1 m1 r2 m2 x l ok er := by
  cases hv : (vld r1 m1 && vld r2 m2)
  · exact ⟨0, 0, false, 1, Meet_bad r1 m1 r2 m2 hv, .inl ⟨hv, rfl, rfl, rfl, rfl⟩⟩
  obtain ⟨v1, v2⟩ := Bool.and_eq_true_iff.1 hv
  obtain ⟨p1, p2, p3, p4⟩ := vld_yes v1
  obtain ⟨q1, q2, q3, q4⟩ := vld_yes v2
  have gp : 0 < Int.gcd m1 m2 := by
    have : Int.gcd m1 m2 ≠ 0 := by rw [ne_eq, Int.gcd_eq_zero_iff]; omega
    omega
  obtain ⟨g, hg⟩ : ∃ g : Int, ((Int.gcd m1 m2 : Nat) : Int) = g := ⟨_, rfl⟩
  have g1 : 1 ≤ g := by omega
  have e1 : g ∣ m1 := hg ▸ Int.gcd_dvd_left m1 m2
  have e2 : g ∣ m2 := hg ▸ Int.gcd_dvd_right m1 m2
  have n1 := div_pos' g m2 g1 q1 e2
  have n2 : m2 / g ≤ m2 := Int.ediv_le_self g (by omega)
  by_cases hd : g ∣ r2 - r1
  · have ht : (r2 - r1).tmod g = 0 := Int.tmod_eq_zero_of_dvd hd
    have htb : ((r2 - r1).tmod g != 0) = false := by simp [ht]
    by_cases hb : 4611686018427387904 < m1 * (m2 / g)
    · exact ⟨0, 0, false, 3, Meet_large r1 m1 r2 m2 g _ _ _ _ v1 v2 hg g1 rfl htb rfl n1 n2 rfl rfl hb, .inr (.inr (.inl ⟨v1, v2, by rw [hg]; exact hd, by rw [hg]; exact hb, rfl, rfl, rfl, rfl⟩))⟩
    · obtain ⟨δ, hδ⟩ := hd
      obtain ⟨μ, hμ⟩ := e1
      have f1 : m1 / g = μ := by rw [hμ]; exact Int.mul_ediv_cancel_left _ (by omega)
      have f2 : (r2 - r1).tdiv g = δ := by rw [hδ]; exact Int.mul_tdiv_cancel_left _ (by omega)
      obtain ⟨d1, d2⟩ := quot_bd g δ _ g1 hδ (by omega) (by omega)
      have hco : Int.gcd μ (m2 / g) = 1 := by rw [← f1, ← hg]; exact Int.gcd_ediv_gcd_ediv_gcd gp
      have hμ0 : 0 ≤ μ := by rw [← f1]; exact Int.ediv_nonneg (by omega) (by omega)
      have hμ1 : μ ≤ m1 := by rw [← f1]; exact Int.ediv_le_self g (by omega)
      obtain ⟨i, i0, i1, hi⟩ := inv_exists μ (m2 / g) hμ0 (by omega) n1 (by omega) hco
      have k0 := Int.emod_nonneg (δ % (m2 / g) * i) (show m2 / g ≠ 0 by omega)
      have k1 := Int.emod_lt_of_pos (δ % (m2 / g) * i) (show 0 < m2 / g by omega)
      obtain ⟨k, hk⟩ : ∃ k, δ % (m2 / g) * i % (m2 / g) = k := ⟨_, rfl⟩
      rw [hk] at k0 k1
      have z0 : 0 ≤ m1 * k := Int.mul_nonneg (by omega) k0
      have z1 : m1 * k + m1 ≤ m1 * (m2 / g) := by
        have := Int.mul_le_mul_of_nonneg_left (show k + 1 ≤ m2 / g by omega) (show 0 ≤ m1 by omega)
        rw [Int.mul_add, Int.mul_one] at this; exact this
      obtain ⟨t, ht2⟩ := meet_math r1 m1 r2 m2 g μ (m2 / g) δ i k hμ (by rw [Int.mul_comm]; exact (Int.ediv_mul_cancel e2).symm) hδ hi hk.symm
      refine ⟨r1 + m1 * k, m1 * (m2 / g), true, 0, Meet_ok r1 m1 r2 m2 g _ (m2 / g) μ δ _ i k _ _ v1 v2 hg g1 rfl htb rfl n1 n2 f1 f2 d1 d2 rfl hco i0 i1 hi hk rfl z0 rfl (by omega) (by omega), .inr (.inr (.inr ⟨v1, v2, by rw [hg]; exact ⟨δ, hδ⟩, by rw [hg]; omega, by rw [hg], rfl, rfl, by omega, by omega, ?_, ?_⟩))⟩
      · rw [Int.add_mul_emod_self_left, Int.emod_eq_of_lt p3 p4]
      · rw [ht2, Int.add_mul_emod_self_left, Int.emod_eq_of_lt q3 q4]
  · have ht : ((r2 - r1).tmod g != 0) = true := by
      simp only [bne_iff_ne, ne_eq]
      exact fun h => hd (Int.dvd_of_tmod_eq_zero h)
    exact ⟨0, 0, false, 0, Meet_none r1 m1 r2 m2 g _ v1 v2 hg g1 rfl ht, .inr (.inl ⟨v1, v2, by rw [hg]; exact hd, rfl, rfl, rfl, rfl⟩)⟩

/-- A number belongs to the class that Meet returns exactly if it belongs to both. -/
theorem meet_members (r1 m1 r2 m2 x l : Int) (ok : Bool) (er n : Int) (h : MeetF r1 m1 r2 m2 x l ok er) (he : er = 0) : (ok && cont x l n) = (cont r1 m1 n && cont r2 m2 n) := by
  rcases h with ⟨_, _, _, _, h1⟩ | ⟨v1, v2, hd, rfl, rfl, rfl, _⟩ | ⟨_, _, _, _, _, _, _, h1⟩ | ⟨v1, v2, hd, hb, hl, rfl, _, x0, x1, hx1, hx2⟩
  · omega
  · rw [Bool.false_and]
    symm
    rw [Bool.and_eq_false_iff]
    by_cases h1 : n % m1 = r1
    · right
      simp only [cont, v2, Bool.true_and, decide_eq_false_iff_not]
      intro h2
      apply hd
      obtain ⟨s1, e1⟩ := emod_form n m1
      obtain ⟨s2, e2⟩ := emod_form n m2
      obtain ⟨t1, f1⟩ := Int.gcd_dvd_left m1 m2
      obtain ⟨t2, f2⟩ := Int.gcd_dvd_right m1 m2
      generalize ((Int.gcd m1 m2 : Nat) : Int) = g at *
      refine ⟨t1 * s1 - t2 * s2, ?_⟩
      have : r2 - r1 = m1 * s1 - m2 * s2 := by omega
      rw [this, f1, f2, Int.mul_sub, Int.mul_assoc, Int.mul_assoc]
    · left
      simp [cont, h1]
  · omega
  · obtain ⟨p1, p2, p3, p4⟩ := vld_yes v1
    obtain ⟨q1, q2, q3, q4⟩ := vld_yes v2
    have vl : vld x l = true := by simp only [vld, decide_eq_true_eq]; omega
    have key := lcm_iff m1 m2 _ (n - x) p1 rfl
    rw [← hl] at key
    rw [Bool.true_and, Bool.eq_iff_iff]
    simp only [cont, v1, v2, vl, Bool.true_and, Bool.and_eq_true, decide_eq_true_eq]
    have c1 : ∀ d c : Int, 0 ≤ c → c < d → (n % d = c ↔ (n - c) % d = 0) := fun d c h0 h1 => by
      rw [← Int.emod_eq_emod_iff_emod_sub_eq_zero, Int.emod_eq_of_lt h0 h1]
    have a1 : n % m1 = r1 ↔ m1 ∣ n - x := by
      rw [← hx1, Int.emod_eq_emod_iff_emod_sub_eq_zero, Int.dvd_iff_emod_eq_zero]
    have a2 : n % m2 = r2 ↔ m2 ∣ n - x := by
      rw [← hx2, Int.emod_eq_emod_iff_emod_sub_eq_zero, Int.dvd_iff_emod_eq_zero]
    rw [a1, a2, ← key, c1 l x x0 x1, Int.dvd_iff_emod_eq_zero]
end Go.Proofs.Ytgicdfhhaefibaa
