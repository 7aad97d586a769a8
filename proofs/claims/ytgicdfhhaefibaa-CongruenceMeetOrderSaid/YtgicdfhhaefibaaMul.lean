/- The product of two residues modulo m, for all arguments; the classes that Solve and Meet return. -/
import Derived.Test.YtgicdfhhaefibaaDvn
import Derived.Test.YtgicdfhhaefibaaOpn
namespace Go.Proofs.Ytgicdfhhaefibaa
open Go.Sort Go.ChangeShapes Go.WideShapes Go.ChangeAt Go.RowKit

theorem Div64_rem (h l y : Nat) (w : World) (h1 : h < y) (l1 : l < 18446744073709551616) (y1 : y < 18446744073709551616) :
    Calls Try.prog 46 #[.int .u64 h, .int .u64 l, .int .u64 y] w fun e w' => (∃ x : Int, e = .returned (.tuple #[.int .u64 x, .int .u64 (((h * 18446744073709551616 + l) % y : Nat) : Int)])) ∧ ∃ n, w' = w.drewN n := by
  by_cases h0 : h = 0
  · subst h0
    refine (Div64_low l y w (by omega) (by omega) (by omega) (by omega)).mono ?_
    rintro e w' ⟨he, hw⟩
    refine ⟨⟨(l : Int) / y, ?_⟩, hw⟩
    rw [he, Nat.zero_mul, Nat.zero_add]; rfl
  · exact (Div64_nat h l y w (by omega) h1 l1 y1).mono fun e w' ⟨a, b⟩ => ⟨a, 0, b ▸ rfl⟩

theorem Rem64_nat (h l y : Nat) (w : World) (y0 : 0 < y) (h1 : h < 18446744073709551616) (l1 : l < 18446744073709551616) (y1 : y < 18446744073709551616) :
    Calls Try.prog 44 #[.int .u64 h, .int .u64 l, .int .u64 y] w fun e w' => e = .returned (.int .u64 (((h * 18446744073709551616 + l) % y : Nat) : Int)) ∧ ∃ n, w' = w.drewN n := by
  have e : (h * 18446744073709551616 + l) % y = (h % y * 18446744073709551616 + l) % y := by
    rw [Nat.add_mod, Nat.mul_mod, ← Nat.mul_mod, Nat.add_mod (h % y * _), Nat.mul_mod (h % y), Nat.mod_mod, ← Nat.mul_mod]
  rw [e]
  have hl : h % y < y := Nat.mod_lt _ y0
  have H := Lib.hid (fun w => Div64_rem (h % y) l y w hl l1 y1)
  have c1 : ((h % y : Nat) : Int) = (h : Int) % y := Int.natCast_emod h y
  clear e
  generalize (h % y * 18446744073709551616 + l) % y = v at *
  generalize hz : h % y = z at *
  have c2 : (h : Int) % y = z := c1.symm
  clear c1 hz
  go_enter Try.func44, Try.ntmps44
  go_wp2_with (go_at_call 46; refine (H.out _).mono ?_; rintro e w' ⟨⟨x, rfl⟩, n, rfl⟩)
  go_ret
  exact ⟨rfl, _, rfl⟩

theorem mulMod_any (a b m : Nat) (w : World) (ha : a < 9223372036854775808) (hb : b < 9223372036854775808) (hm : 1 ≤ m) (hm2 : m ≤ 9223372036854775807) :
    Calls Try.prog 40 #[.int .i64 a, .int .i64 b, .int .i64 m] w fun e w' => e = .returned (.int .i64 ((a * b % m : Nat) : Int)) ∧ ∃ n, w' = w.drewN n := by
  have hp : a * b < 340282366920938463463374607431768211456 := by
    have := Nat.mul_le_mul (show a ≤ 9223372036854775807 by omega) (show b ≤ 9223372036854775807 by omega)
    omega
  have hh : a * b / 18446744073709551616 < 18446744073709551616 := by omega
  have hll : a * b % 18446744073709551616 < 18446744073709551616 := by omega
  have hlm : a * b % m < m := Nat.mod_lt _ (by omega)
  have hd := Nat.div_add_mod (a * b) 18446744073709551616
  have H := Lib.hid (Try.bits_Mul64 a b (by omega) (by omega))
  have R := Lib.hid (fun w => show Calls Try.prog 44 #[.int .u64 ((a * b / 18446744073709551616 : Nat) : Int), .int .u64 ((a * b % 18446744073709551616 : Nat) : Int), .int .u64 m] w fun e w' => e = .returned (.int .u64 ((a * b % m : Nat) : Int)) ∧ ∃ n, w' = w.drewN n from by
    have := Rem64_nat (a * b / 18446744073709551616) (a * b % 18446744073709551616) m w (by omega) hh hll (by omega)
    rw [Nat.mul_comm _ 18446744073709551616, hd] at this
    exact this)
  clear hd hp
  generalize a * b / 18446744073709551616 = x at *
  generalize a * b % 18446744073709551616 = z at *
  generalize a * b % m = v at *
  go_enter Try.func40, Try.ntmps40
  go_wp2_with (first | (go_at_call 39; refine (H.out _).mono ?_; rintro e w' ⟨rfl, hw⟩; rw [hw]) | (go_at_call 44; refine (R.out _).mono ?_; rintro e w' ⟨rfl, n, rfl⟩))
  go_ret
  exact ⟨rfl, _, rfl⟩

theorem mulMod_int (a b m : Int) (w : World) (a0 : 0 ≤ a) (a1 : a ≤ 9223372036854775807) (b0 : 0 ≤ b) (b1 : b ≤ 9223372036854775807) (hm : 1 ≤ m) (hm2 : m ≤ 9223372036854775807) :
    Calls Try.prog 40 #[.int .i64 a, .int .i64 b, .int .i64 m] w fun e w' => e = .returned (.int .i64 (a * b % m)) ∧ ∃ n, w' = w.drewN n := by
  obtain ⟨x, rfl⟩ := Int.eq_ofNat_of_zero_le a0
  obtain ⟨y, rfl⟩ := Int.eq_ofNat_of_zero_le b0
  obtain ⟨z, rfl⟩ := Int.eq_ofNat_of_zero_le (show 0 ≤ m by omega)
  exact mulMod_any x y z w (by omega) (by omega) (by omega) (by omega)
end Go.Proofs.Ytgicdfhhaefibaa
