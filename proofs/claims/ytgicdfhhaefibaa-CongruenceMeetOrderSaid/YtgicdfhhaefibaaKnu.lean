/- The digits of Knuth's long division by two halves: what a correction keeps, and what the two digits give together. -/
import Derived.IntWalk
import Derived.WalkKit
namespace Go.Proofs.Ytgicdfhhaefibaa
open Go.RowKit

theorem dig_start (U Y A B C : Int) (hY : Y = A * 4294967296 + B) (a1 : 2147483648 ≤ A) (a2 : A < 4294967296) (b1 : 0 ≤ B) (b2 : B < 4294967296) (u0 : 0 ≤ U) (u1 : U < Y) (_c0 : 0 ≤ C) (c1 : C < 4294967296) :
    0 ≤ U / A ∧ U / A ≤ 4294967297 ∧ 0 ≤ U % A ∧ U % A < 4294967296 ∧ U = U / A * A + U % A ∧ U * 4294967296 + C < (U / A + 1) * Y := by
  have h1 := Int.emod_add_mul_ediv U A
  have h2 := Int.emod_nonneg U (show A ≠ 0 by omega)
  have h3 := Int.emod_lt_of_pos U (show 0 < A by omega)
  have h4 : 0 ≤ U / A := Int.ediv_nonneg u0 (by omega)
  generalize U / A = q at *
  generalize U % A = r at *
  have e : q * A = A * q := Int.mul_comm _ _
  have hb : 0 ≤ (q + 1) * B := Int.mul_nonneg (by omega) b1
  have hq : q ≤ 4294967297 := by
    have : q * A < 4294967298 * A := by omega
    have := Int.lt_of_mul_lt_mul_right this (by omega)
    omega
  refine ⟨h4, hq, h2, by omega, by omega, ?_⟩
  have hx : (q + 1) * Y = (q * A + A) * 4294967296 + (q + 1) * B := by rw [hY]; grind
  rw [hx]; omega

theorem dig_step (U Y A B C q r : Int) (hY : Y = A * 4294967296 + B) (u1 : U < Y) (c1 : C < 4294967296) (c0 : 0 ≤ C) (hU : U = q * A + r) (r0 : 0 ≤ r) (q0 : 0 ≤ q) (y0 : 0 ≤ Y)
    (ht : 4294967296 ≤ q ∨ 4294967296 * r + C < q * B) : 1 ≤ q ∧ U = (q - 1) * A + (r + A) ∧ U * 4294967296 + C < (q - 1 + 1) * Y := by
  refine ⟨?_, by grind, ?_⟩
  · rcases ht with h | h
    · omega
    · by_cases hq : q = 0
      · subst hq; simp at h; omega
      · omega
  · rw [show q - 1 + 1 = q by omega]
    rcases ht with h | h
    · have := Int.mul_le_mul_of_nonneg_right h y0
      omega
    · have hx : q * Y = (q * A) * 4294967296 + q * B := by rw [hY]; grind
      rw [hx]; omega

theorem dig_exit (U Y A B C q r : Int) (hY : Y = A * 4294967296 + B) (hU : U = q * A + r) (ht : q * B ≤ 4294967296 * r + C) : q * Y ≤ U * 4294967296 + C := by
  have hx : q * Y = (q * A) * 4294967296 + q * B := by rw [hY]; grind
  rw [hx]; omega

theorem dig_break (U Y A B C q r : Int) (hY : Y = A * 4294967296 + B) (b1 : 0 ≤ B) (b2 : B < 4294967296) (c0 : 0 ≤ C) (hU : U = q * A + r) (hq : q ≤ 4294967296) (hr : 4294967296 ≤ r) : q * Y ≤ U * 4294967296 + C := by
  refine dig_exit U Y A B C q r hY hU ?_
  have := Int.mul_le_mul_of_nonneg_right hq b1
  omega

theorem prod_bd (q B : Int) (q0 : 0 ≤ q) (q1 : q < 4294967296) (b1 : 0 ≤ B) (b2 : B < 4294967296) : 0 ≤ q * B ∧ q * B ≤ 18446744073709551615 := by
  have h1 := Int.mul_nonneg q0 b1
  have h2 := Int.mul_le_mul_of_nonneg_right (show q ≤ 4294967295 by omega) b1
  omega

theorem div_end (X y P Y U V C1 C0 q1 t q0 t2 : Int) (hP : 0 < P) (hY : Y = y * P) (hX : X * P = U * 18446744073709551616 + V) (hV : V = C1 * 4294967296 + C0) (h1 : U * 4294967296 + C1 = q1 * Y + t) (h2 : t * 4294967296 + C0 = q0 * Y + t2) (t0 : 0 ≤ t2) (t1 : t2 < Y) :
    t2 / P = X % y := by
  have e : t2 = (X - (q1 * 4294967296 + q0) * y) * P := by subst hY; grind
  have e2 : t2 / P = X - (q1 * 4294967296 + q0) * y := by rw [e]; exact Int.mul_ediv_cancel _ (by omega)
  rw [e2]
  have l0 : 0 ≤ X - (q1 * 4294967296 + q0) * y := by rw [← e2]; exact Int.ediv_nonneg t0 (by omega)
  have l1 : X - (q1 * 4294967296 + q0) * y < y := by
    have : (X - (q1 * 4294967296 + q0) * y) * P < y * P := by rw [← e, ← hY]; exact t1
    exact Int.lt_of_mul_lt_mul_right this (by omega)
  generalize q1 * 4294967296 + q0 = Q at *
  have : X = (X - Q * y) + y * Q := by grind
  generalize hR : X - Q * y = R at *
  rw [this, Int.add_mul_emod_self_left, Int.emod_eq_of_lt l0 l1]

/-- What the loop over a digit keeps. -/
def DigInv (U Y A C q r : Int) : Prop := U = q * A + r ∧ U * 4294967296 + C < (q + 1) * Y

theorem dig_start2 (U Y A B C : Int) (hY : Y = A * 4294967296 + B) (a1 : 2147483648 ≤ A) (a2 : A < 4294967296) (b1 : 0 ≤ B) (b2 : B < 4294967296) (u0 : 0 ≤ U) (u1 : U < Y) (c0 : 0 ≤ C) (c1 : C < 4294967296) (y2 : Y ≤ 18446744073709551615) :
    ∃ qi qa ri : Int, IntKind.u64.wrap (U.tdiv A) = qi ∧ IntKind.u64.wrap (qi * A) = qa ∧ IntKind.u64.wrap (U - qa) = ri ∧ 0 ≤ qi ∧ qi ≤ 4294967297 ∧ 0 ≤ ri ∧ ri < 4294967296 ∧ DigInv U Y A C qi ri := by
  obtain ⟨s1, s2, s3, s4, sx, sy⟩ := dig_start U Y A B C hY a1 a2 b1 b2 u0 u1 c0 c1
  have n1 : 0 ≤ U / A * A := Int.mul_nonneg s1 (by omega)
  exact ⟨U / A, U / A * A, U % A, IntWalk.u64_quo _ _ ⟨u0, by omega, by omega⟩, IntWalk.u64_in _ ⟨n1, by omega⟩, by rw [show U - U / A * A = U % A by omega]; exact IntWalk.u64_in _ ⟨s3, by omega⟩, s1, s2, s3, s4, sx, sy⟩

theorem dig_wraps (U C q Y : Int) (h1 : q * Y ≤ U * 4294967296 + C) (h2 : U * 4294967296 + C < (q + 1) * Y) (hY : Y ≤ 18446744073709551615) :
    ∃ um us qy t, IntKind.u64.wrap (U * 4294967296) = um ∧ IntKind.u64.wrap (um + C) = us ∧ IntKind.u64.wrap (q * Y) = qy ∧ IntKind.u64.wrap (us - qy) = t ∧ U * 4294967296 + C = q * Y + t ∧ 0 ≤ t ∧ t < Y := by
  have e : (q + 1) * Y = q * Y + Y := by grind
  rw [e] at h2
  refine ⟨_, _, _, U * 4294967296 + C - q * Y, rfl, rfl, rfl, ?_, by omega, by omega, by omega⟩
  rw [IntKind.wrap_u64, IntKind.wrap_u64, IntKind.wrap_u64, IntKind.wrap_u64]
  generalize q * Y = z at *
  omega
end Go.Proofs.Ytgicdfhhaefibaa
