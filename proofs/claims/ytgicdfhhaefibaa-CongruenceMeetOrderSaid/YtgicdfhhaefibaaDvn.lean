/- math/bits.Div64 and Rem64 over natural numbers, and the product of two residues modulo m. -/
import Derived.Test.YtgicdfhhaefibaaDiv
import Derived.Lib.ItoaNum
namespace Go.Proofs.Ytgicdfhhaefibaa
open Go.Sort Go.ChangeShapes Go.WideShapes Go.ChangeAt Go.RowKit

theorem norm_bd (y c : Nat) (L : Nat) (hL : L + c = 64) (h1 : 1 ≤ L) (h2 : 2 ^ (L - 1) ≤ y) (h3 : y < 2 ^ L) : 9223372036854775808 ≤ y * 2 ^ c ∧ y * 2 ^ c < 18446744073709551616 := by
  have e1 : 2 ^ (L - 1) * 2 ^ c = 9223372036854775808 := by rw [← Nat.pow_add, show L - 1 + c = 63 by omega]
  have e2 : 2 ^ L * 2 ^ c = 18446744073709551616 := by rw [← Nat.pow_add, hL]
  have p0 : 0 < 2 ^ c := Nat.pow_pos (by omega)
  exact ⟨by rw [← e1]; exact Nat.mul_le_mul_right _ h2, by rw [← e2]; exact Nat.mul_lt_mul_of_pos_right h3 p0⟩

theorem Div64_nat (h l y : Nat) (w : World) (h0 : 0 < h) (h1 : h < y) (l1 : l < 18446744073709551616) (y1 : y < 18446744073709551616) :
    Calls Try.prog 46 #[.int .u64 h, .int .u64 l, .int .u64 y] w fun e w' => (∃ x : Int, e = .returned (.tuple #[.int .u64 x, .int .u64 (((h * 18446744073709551616 + l) % y : Nat) : Int)])) ∧ w = w' := by
  obtain ⟨L1, L2, L3⟩ := Lib.bitLenAux_bounds 64 y y1 (by omega)
  have L4 : Lib.bitLen y ≤ 64 := by
    have := Any.bitLen_le64 (y : Int) (by omega) (by omega); simpa using this
  have L0 : Lib.bitLenAux 64 y = Lib.bitLen y := rfl
  rw [L0] at L1 L2 L3
  obtain ⟨c, hc⟩ : ∃ c, Lib.bitLen y + c = 64 := ⟨64 - Lib.bitLen y, by omega⟩
  obtain ⟨n1, n2⟩ := norm_bd y c _ hc L1 L2 L3
  have p0 : 0 < 2 ^ c := Nat.pow_pos (by omega)
  have pp : 2 ^ c * 2 ^ (64 - c) = 18446744073709551616 := by rw [← Nat.pow_add, show c + (64 - c) = 64 by omega]
  have hs : h * 2 ^ c < y * 2 ^ c := Nat.mul_lt_mul_of_pos_right h1 p0
  have ls : l / 2 ^ (64 - c) < 2 ^ c := by
    rw [Nat.div_lt_iff_lt_mul (Nat.pow_pos (by omega)), pp]; exact l1
  have hor : h * 2 ^ c ||| l / 2 ^ (64 - c) = h * 2 ^ c + l / 2 ^ (64 - c) := by
    rw [Nat.mul_comm h, Nat.two_pow_add_eq_or_of_lt ls]
  have hV : l * 2 ^ c = l / 2 ^ (64 - c) * 18446744073709551616 + l * 2 ^ c % 18446744073709551616 := by
    have e : l * 2 ^ c / 18446744073709551616 = l / 2 ^ (64 - c) := by
      rw [← pp, Nat.mul_comm l, Nat.mul_div_mul_left _ _ p0]
    have := Nat.div_add_mod (l * 2 ^ c) 18446744073709551616
    rw [e] at this; omega
  have hX : (h * 18446744073709551616 + l) * 2 ^ c = (h * 2 ^ c + l / 2 ^ (64 - c)) * 18446744073709551616 + l * 2 ^ c % 18446744073709551616 := by
    have : (h * 18446744073709551616 + l) * 2 ^ c = h * 2 ^ c * 18446744073709551616 + l * 2 ^ c := by grind
    rw [this]; omega
  have hU : h * 2 ^ c + l / 2 ^ (64 - c) < y * 2 ^ c := by
    have a : (h + 1) * 2 ^ c ≤ y * 2 ^ c := Nat.mul_le_mul_right _ h1
    have b : (h + 1) * 2 ^ c = h * 2 ^ c + 2 ^ c := by grind
    omega
  generalize hYY : y * 2 ^ c = Y at *
  generalize hHH : h * 2 ^ c = HS at *
  generalize hLL : l / 2 ^ (64 - c) = LS at *
  have hVl : l * 2 ^ c % 18446744073709551616 < 18446744073709551616 := Nat.mod_lt _ (by omega)
  have c2 : ((2 ^ c : Nat) : Int) = (2 : Int) ^ c := Int.natCast_pow 2 c
  have c3 : ((2 ^ (64 - c) : Nat) : Int) = (2 : Int) ^ (64 - c) := Int.natCast_pow 2 (64 - c)
  have E1 : IntKind.u64.wrap ((y : Int) * 2 ^ c) = (Y : Int) := by rw [← c2, ← Int.natCast_mul, hYY, IntKind.wrap_u64]; omega
  have E4 : IntKind.u64.wrap ((h : Int) * 2 ^ c) = (HS : Int) := by rw [← c2, ← Int.natCast_mul, hHH, IntKind.wrap_u64]; omega
  have E5 : (l : Int) / 2 ^ (64 - c) = (LS : Int) := by rw [← c3, ← Int.natCast_ediv, hLL]
  have E6 : bits .or .u64 (HS : Int) (LS : Int) = ((HS + LS : Nat) : Int) := by rw [bits_or_u64_nat HS LS (by omega) (by omega), hor]
  have E7 : IntKind.u64.wrap ((l : Int) * 2 ^ c) = ((l * 2 ^ c % 18446744073709551616 : Nat) : Int) := by rw [← c2, ← Int.natCast_mul, IntKind.wrap_u64]; omega
  generalize l * 2 ^ c % 18446744073709551616 = V at *
  have E3 : bits .and .u64 (Y : Int) 4294967295 = ((Y % 4294967296 : Nat) : Int) := Mul64.maskN Y (by omega)
  have E9 : bits .and .u64 (V : Int) 4294967295 = ((V % 4294967296 : Nat) : Int) := Mul64.maskN V (by omega)
  refine (Div64_walk h l y Y ((Y / 4294967296 : Nat) : Int) ((Y % 4294967296 : Nat) : Int) HS LS ((HS + LS : Nat) : Int) V ((V / 4294967296 : Nat) : Int) ((V % 4294967296 : Nat) : Int) c w (by omega) (by omega) (by omega) (by simp; omega) (by omega) E1 (by omega) E3 E4 E5 E6 E7 (by omega) E9 (by omega) (by omega) (by omega) (by omega) (by omega) (by omega) (by omega) (by omega) (by omega) (by omega) (by omega) (by omega) (by omega)).mono ?_
  rintro e w' ⟨x, t2, he, ⟨q1, t, q0, m1, m2, m3, m4⟩, hw⟩
  refine ⟨⟨x, ?_⟩, hw⟩
  have hfin := div_end ((h : Int) * 18446744073709551616 + l) y (2 ^ c) Y ((HS + LS : Nat) : Int) V ((V / 4294967296 : Nat) : Int) ((V % 4294967296 : Nat) : Int) q1 t q0 t2 (by rw [← c2]; omega) (by rw [← c2, ← Int.natCast_mul, hYY])
    (by rw [← c2]; have := congrArg (fun z : Nat => (z : Int)) hX; simpa using this) (by omega) m1 m2 m3 m4
  rw [he, hfin]
  rfl
end Go.Proofs.Ytgicdfhhaefibaa
