/- Quotient and remainder: there is one pair. -/
import Derived.Test.YthfolccofjaknaaBkt
import Derived.Test.YthfolccofjaknaaBdf
import Derived.Test.YthfolccofjaknaaBrz
namespace Go.Proofs.Ythfolccofjaknaa
open Go.ChangeShapes Go.WideShapes Go.ChangeAt Go.RowKit Go.ChangeMaps

theorem qr_exists (a b : Int) (hb : b ≠ 0) : ∃ q r, QR a b q r := by
  rcases Int.lt_trichotomy b 0 with h | h | h
  · have h1 := Int.mul_ediv_add_emod (-a) (-b)
    have h2 := Int.emod_nonneg (-a) (show -b ≠ 0 by omega)
    have h3 := Int.emod_lt_of_pos (-a) (show 0 < -b by omega)
    refine ⟨(-a) / (-b), -((-a) % (-b)), ?_, .inr ⟨by omega, by omega⟩⟩
    rw [Int.neg_mul] at h1
    rw [Int.mul_comm ((-a) / (-b)) b]
    omega
  · exact absurd h hb
  · have h1 := Int.mul_ediv_add_emod a b
    have h2 := Int.emod_nonneg a hb
    have h3 := Int.emod_lt_of_pos a h
    exact ⟨a / b, a % b, by rw [Int.mul_comm]; omega, .inl ⟨h2, h3⟩⟩
theorem qr_lt {a b q r q' r' : Int} (h : QR a b q r) (h' : QR a b q' r') (hq : q < q') : False := by
  obtain ⟨h1, h2⟩ := h
  obtain ⟨h3, h4⟩ := h'
  rcases Int.lt_trichotomy b 0 with hb | hb | hb
  · have := Int.mul_le_mul_of_nonpos_right (show q + 1 ≤ q' by omega) (show b ≤ 0 by omega)
    rw [Int.add_mul] at this
    omega
  · omega
  · have := Int.mul_le_mul_of_nonneg_right (show q + 1 ≤ q' by omega) (show 0 ≤ b by omega)
    rw [Int.add_mul] at this
    omega
theorem qr_unique {a b q r q' r' : Int} (h : QR a b q r) (h' : QR a b q' r') : q = q' ∧ r = r' := by
  have hq : q = q' := by
    rcases Int.lt_trichotomy q q' with g | g | g
    · exact (qr_lt h h' g).elim
    · exact g
    · exact (qr_lt h' h g).elim
  subst hq
  have h1 := h.1
  have h3 := h'.1
  exact ⟨rfl, by omega⟩
/-- DivFloor for any divisor that is not zero, with the one quotient and remainder. -/
theorem DivFloor_qr (a b : Value) (z1 z2 q r : Int) (N : Nat) (w : World) (ha : BG w a z1 N) (hb : BG w b z2 N) (hN : N ≤ 40000) (hz : z2 ≠ 0) (hq : QR z1 z2 q r) : Calls Try.prog 72 #[a, b] w fun e w' => (∃ vq vr, e = .returned (.tuple #[vq, vr, .bool true]) ∧ NB w' w.heap.size vq q (N + 3) ∧ NB w' w.heap.size vr r (N + 3)) ∧ Below w.heap.size w w' := by
  refine (DivFloor_any (z2.natAbs + 1) (div_any _) a b z1 z2 N N w ha hb hN hN hz (by omega)).mono ?_
  rintro e w' ⟨vq, vr, q', r', rfl, h1, h2, h3, hb⟩
  obtain ⟨rfl, rfl⟩ := qr_unique h3 hq
  exact ⟨⟨vq, vr, rfl, h1.mono (Nat.le_refl _) (by omega), h2.mono (Nat.le_refl _) (by omega)⟩, hb⟩
end Go.Proofs.Ythfolccofjaknaa
