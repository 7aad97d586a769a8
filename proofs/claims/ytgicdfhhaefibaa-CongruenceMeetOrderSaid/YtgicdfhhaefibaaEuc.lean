/- The extended algorithm of Euclid on integers that are not negative: what a round keeps, and what the end gives. -/
import Derived.IntWalk
namespace Go.Proofs.Ytgicdfhhaefibaa
open Go.RowKit

/-- What holds at each round: p, q, c, d are the absolute values of x, u, y, v. -/
def ExtInv (A B r s x y u v : Int) : Prop :=
  0 ≤ r ∧ 0 ≤ s ∧ Int.gcd r s = Int.gcd A B ∧ r = A * x + B * y ∧ s = A * u + B * v ∧
  ∃ p q c d : Int, 0 ≤ p ∧ 0 ≤ q ∧ 0 ≤ c ∧ 0 ≤ d ∧ q * r + p * s = B ∧ d * r + c * s = A ∧ (0 < r ∨ (q = 0 ∧ d = 1)) ∧
    (p ≤ 1 ∨ p * (Int.gcd A B : Nat) ≤ B) ∧ (c ≤ 1 ∨ c * (Int.gcd A B : Nat) ≤ A) ∧
    ((x = p ∧ u = -q ∧ y = -c ∧ v = d) ∨ (x = -p ∧ u = q ∧ y = c ∧ v = -d))

theorem ext_start (A B : Int) (hA : 0 ≤ A) (hB : 0 ≤ B) : ExtInv A B A B 1 0 0 1 :=
  ⟨hA, hB, rfl, by simp, by simp, 1, 0, 0, 1, by omega, by omega, by omega, by omega, by simp, by simp, .inr ⟨rfl, rfl⟩, .inl (by omega), .inl (by omega), .inl ⟨rfl, rfl, rfl, rfl⟩⟩

theorem gcd_step' (x y : Int) (hx : 0 ≤ x) (hy : 0 ≤ y) : Int.gcd y (x % y) = Int.gcd x y := by
  obtain ⟨a, rfl⟩ := Int.eq_ofNat_of_zero_le hx
  obtain ⟨b, rfl⟩ := Int.eq_ofNat_of_zero_le hy
  show Nat.gcd b _ = Nat.gcd a b
  rw [Nat.gcd_comm a b, Nat.gcd_rec b a, Nat.gcd_comm]
  rfl

theorem le_of_mul_pos (a b c : Int) (ha : 0 ≤ a) (hb : 1 ≤ b) (h : a * b ≤ c) : a ≤ c := by
  have := Int.mul_le_mul_of_nonneg_left hb ha
  omega

theorem gcd_le_left (r s : Int) (hr : 0 < r) : ((Int.gcd r s : Nat) : Int) ≤ r := Int.le_of_dvd hr (Int.gcd_dvd_left r s)

theorem ext_step {A B r s x y u v k : Int} (h : ExtInv A B r s x y u v) (hs : 1 ≤ s) (hk : r / s = k) (hr2 : r ≤ 9223372036854775807) (hA : A ≤ 9223372036854775807) (hB : B ≤ 9223372036854775807) :
    ExtInv A B s (r - k * s) u v (x - k * u) (y - k * v) ∧ r - k * s < s ∧
    wrap64 (k * s) = k * s ∧ wrap64 (r - k * s) = r - k * s ∧ wrap64 (k * u) = k * u ∧ wrap64 (x - k * u) = x - k * u ∧ wrap64 (k * v) = k * v ∧ wrap64 (y - k * v) = y - k * v := by
  obtain ⟨h1, h2, hg, hr, hs', p, q, c, d, p0, q0, c0, d0, e1, e2, hz, hp, hc, hsg⟩ := h
  have hk0 : 0 ≤ k := by rw [← hk]; exact Int.ediv_nonneg h1 h2
  have hm : r % s = r - k * s := by rw [Int.emod_def, hk, Int.mul_comm]
  have m0 := Int.emod_nonneg r (show s ≠ 0 by omega)
  have m1 := Int.emod_lt_of_pos r (show 0 < s by omega)
  have kq : 0 ≤ k * q := Int.mul_nonneg hk0 q0
  have kd : 0 ≤ k * d := Int.mul_nonneg hk0 d0
  have ks : 0 ≤ k * s := Int.mul_nonneg hk0 h2
  have f1 : (p + k * q) * s + q * (r - k * s) = B := by grind
  have f2 : (c + k * d) * s + d * (r - k * s) = A := by grind
  have g1 : 0 ≤ q * (r - k * s) := Int.mul_nonneg q0 (by omega)
  have g2 : 0 ≤ d * (r - k * s) := Int.mul_nonneg d0 (by omega)
  have b1 : p + k * q ≤ B := le_of_mul_pos _ s _ (by omega) hs (by omega)
  have b2 : c + k * d ≤ A := le_of_mul_pos _ s _ (by omega) hs (by omega)
  have qr : 0 ≤ p * s := Int.mul_nonneg p0 h2
  have dr : 0 ≤ c * s := Int.mul_nonneg c0 h2
  have bq : q ≤ 1 ∨ q * (Int.gcd A B : Nat) ≤ B := by
    rcases hz with hz | ⟨hz, _⟩
    · right
      have := Int.mul_le_mul_of_nonneg_left (hg ▸ gcd_le_left r s hz) q0
      omega
    · left; omega
  have bd : d ≤ 1 ∨ d * (Int.gcd A B : Nat) ≤ A := by
    rcases hz with hz | ⟨_, hz⟩
    · right
      have := Int.mul_le_mul_of_nonneg_left (hg ▸ gcd_le_left r s hz) d0
      omega
    · left; omega
  refine ⟨⟨by omega, by omega, ?_, hs', ?_, q, p + k * q, d, c + k * d, q0, by omega, d0, by omega, f1, f2, .inl (by omega), bq, bd, ?_⟩, by omega, ?_⟩
  · rw [← hm, gcd_step' r s h1 h2, hg]
  · grind
  · rcases hsg with ⟨rfl, rfl, rfl, rfl⟩ | ⟨rfl, rfl, rfl, rfl⟩
    · right; refine ⟨rfl, ?_, rfl, ?_⟩ <;> grind
    · left; refine ⟨rfl, ?_, rfl, ?_⟩ <;> grind
  · have w1 : wrap64 (k * s) = k * s := IntWalk.wrap64_in _ (by omega)
    have w2 : wrap64 (r - k * s) = r - k * s := IntWalk.wrap64_in _ (by omega)
    rcases hsg with ⟨rfl, rfl, rfl, rfl⟩ | ⟨rfl, rfl, rfl, rfl⟩
    · have t1 : k * -q = -(k * q) := by grind
      rw [t1]
      exact ⟨w1, w2, IntWalk.wrap64_in _ (by omega), IntWalk.wrap64_in _ (by omega), IntWalk.wrap64_in _ (by omega), IntWalk.wrap64_in _ (by omega)⟩
    · have t1 : k * -d = -(k * d) := by grind
      rw [t1]
      exact ⟨w1, w2, IntWalk.wrap64_in _ (by omega), IntWalk.wrap64_in _ (by omega), IntWalk.wrap64_in _ (by omega), IntWalk.wrap64_in _ (by omega)⟩

theorem ext_step2 {A B r s x y u v k : Int} (h : ExtInv A B r s x y u v) (hs : 1 ≤ s) (hk : r / s = k) (hr2 : r ≤ 9223372036854775807) (hA : A ≤ 9223372036854775807) (hB : B ≤ 9223372036854775807) :
    ∃ ks s' ku u' kv v', wrap64 (k * s) = ks ∧ wrap64 (r - ks) = s' ∧ wrap64 (k * u) = ku ∧ wrap64 (x - ku) = u' ∧ wrap64 (k * v) = kv ∧ wrap64 (y - kv) = v' ∧ ExtInv A B s s' u v u' v' ∧ 0 ≤ s' ∧ s' < s := by
  obtain ⟨hI, hlt, e1, e2, e3, e4, e5, e6⟩ := ext_step h hs hk hr2 hA hB
  exact ⟨_, _, _, _, _, _, e1, e2, e3, e4, e5, e6, hI, hI.2.1, hlt⟩

/-- What the end gives: Bezout's identity, and the bounds. -/
def ExtEnd (A B g x y : Int) : Prop :=
  g = (Int.gcd A B : Nat) ∧ g = A * x + B * y ∧ ∃ p c : Int, 0 ≤ p ∧ 0 ≤ c ∧ (p ≤ 1 ∨ p * g ≤ B) ∧ (c ≤ 1 ∨ c * g ≤ A) ∧ ((x = p ∧ y = -c) ∨ (x = -p ∧ y = c))

theorem ext_end {A B r x y u v : Int} (h : ExtInv A B r 0 x y u v) : ExtEnd A B r x y := by
  obtain ⟨h1, h2, hg, hr, hs', p, q, c, d, p0, q0, c0, d0, e1, e2, hz, hp, hc, hsg⟩ := h
  have e : r = (Int.gcd A B : Nat) := by
    rw [← hg]
    obtain ⟨a, rfl⟩ := Int.eq_ofNat_of_zero_le h1
    simp
  refine ⟨e, hr, p, c, p0, c0, by rw [e]; exact hp, by rw [e]; exact hc, ?_⟩
  rcases hsg with ⟨a, _, b, _⟩ | ⟨a, _, b, _⟩
  · exact .inl ⟨a, b⟩
  · exact .inr ⟨a, b⟩
end Go.Proofs.Ytgicdfhhaefibaa
