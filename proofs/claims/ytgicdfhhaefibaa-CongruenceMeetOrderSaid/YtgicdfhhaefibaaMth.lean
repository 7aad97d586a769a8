/- Common elements of residue classes: the inverse is unique, the element that Meet computes is common, and the least common multiple divides what both moduli divide. -/
import Derived.Test.YtgicdfhhaefibaaSlv
namespace Go.Proofs.Ytgicdfhhaefibaa
open Go.RowKit

theorem inv_unique (a m x y : Int) (x0 : 0 ≤ x) (x1 : x < m) (y0 : 0 ≤ y) (y1 : y < m) (hx : a * x % m = 1 % m) (hy : a * y % m = 1 % m) : x = y := by
  obtain ⟨k1, h1⟩ := emod_form (a * x) m
  obtain ⟨k2, h2⟩ := emod_form (a * y) m
  obtain ⟨k3, h3⟩ := emod_form 1 m
  have e1 : a * x = 1 + m * (k1 - k3) := by rw [Int.mul_sub]; omega
  have e2 : a * y = 1 + m * (k2 - k3) := by rw [Int.mul_sub]; omega
  have h : x + m * (x * (k2 - k3)) = y + m * (y * (k1 - k3)) := by
    have l : x * (a * y) = y * (a * x) := by clear e1 e2 hx hy h1 h2 h3; grind
    rw [e1, e2] at l
    clear e1 e2 hx hy h1 h2 h3
    grind
  have p : (x + m * (x * (k2 - k3))) % m = x := by rw [Int.add_mul_emod_self_left, Int.emod_eq_of_lt x0 x1]
  have q : (y + m * (y * (k1 - k3))) % m = y := by rw [Int.add_mul_emod_self_left, Int.emod_eq_of_lt y0 y1]
  rw [← p, ← q, h]

/-- The element of both classes. -/
theorem meet_math (r1 m1 r2 m2 g μ m δ i k : Int) (h1 : m1 = g * μ) (h2 : m2 = g * m) (hd : r2 - r1 = g * δ) (hi : μ * i % m = 1 % m) (hk : k = δ % m * i % m) : ∃ t, r1 + m1 * k = r2 + m2 * t := by
  obtain ⟨a1, e1⟩ := emod_form δ m
  obtain ⟨a2, e2⟩ := emod_form (δ % m * i) m
  obtain ⟨a3, e3⟩ := emod_form (μ * i) m
  obtain ⟨a4, e4⟩ := emod_form 1 m
  have ei : μ * i = 1 + m * (a3 - a4) := by rw [Int.mul_sub]; omega
  have ek : k = (δ - m * a1) * i - m * a2 := by rw [hk, e2, e1]
  refine ⟨δ * (a3 - a4) - μ * a1 * i - μ * a2, ?_⟩
  have hx : μ * k = δ * (μ * i) - m * (μ * a1 * i) - m * (μ * a2) := by
    rw [ek]; clear ei ek e1 e2 e3 e4 hi hk; grind
  rw [ei] at hx
  have : m1 * k = g * (μ * k) := by rw [h1, Int.mul_assoc]
  rw [this, hx, h2]
  clear hx ei ek e1 e2 e3 e4 hi hk this h1 h2
  have hr : r2 = r1 + g * δ := by omega
  rw [hr]
  clear hd hr
  grind

theorem lcm_iff (m1 m2 g d : Int) (p1 : 1 ≤ m1) (hg : ((Int.gcd m1 m2 : Nat) : Int) = g) : m1 * (m2 / g) ∣ d ↔ m1 ∣ d ∧ m2 ∣ d := by
  have gp : 0 < Int.gcd m1 m2 := by
    have : Int.gcd m1 m2 ≠ 0 := by rw [ne_eq, Int.gcd_eq_zero_iff]; omega
    omega
  have g1 : 1 ≤ g := by omega
  obtain ⟨μ, hμ⟩ : g ∣ m1 := hg ▸ Int.gcd_dvd_left m1 m2
  obtain ⟨n, hn⟩ : g ∣ m2 := hg ▸ Int.gcd_dvd_right m1 m2
  have e1 : m1 / g = μ := by rw [hμ]; exact Int.mul_ediv_cancel_left _ (by omega)
  have e2 : m2 / g = n := by rw [hn]; exact Int.mul_ediv_cancel_left _ (by omega)
  have hco : Int.gcd μ n = 1 := by rw [← e1, ← e2, ← hg]; exact Int.gcd_ediv_gcd_ediv_gcd gp
  rw [e2]
  constructor
  · intro h
    refine ⟨Int.dvd_trans (Int.dvd_mul_right m1 n) h, ?_⟩
    have : m1 * n = m2 * μ := by rw [hμ, hn]; grind
    rw [this] at h
    exact Int.dvd_trans (Int.dvd_mul_right m2 μ) h
  · rintro ⟨⟨t, ht⟩, h2⟩
    have h3 : n ∣ μ * t := by
      rw [ht, hμ, hn, Int.mul_assoc] at h2
      exact Int.dvd_of_mul_dvd_mul_left (by omega) h2
    have h4 : n ∣ t := by
      rw [← Int.natAbs_dvd_natAbs] at h3 ⊢
      rw [Int.natAbs_mul] at h3
      exact Nat.Coprime.dvd_of_dvd_mul_left (by rw [Nat.Coprime, Nat.gcd_comm]; exact hco) h3
    obtain ⟨s, hs⟩ := h4
    exact ⟨s, by rw [ht, hs, Int.mul_assoc]⟩

end Go.Proofs.Ytgicdfhhaefibaa
