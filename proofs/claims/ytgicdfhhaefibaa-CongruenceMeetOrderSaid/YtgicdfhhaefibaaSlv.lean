/- The class of the solutions of a linear congruence, and the reference's product modulo m. -/
import Derived.Test.YtgicdfhhaefibaaMul
import Derived.Deep.RegionWith
namespace Go.Proofs.Ytgicdfhhaefibaa
open Go.Sort Go.ChangeShapes Go.WideShapes Go.ChangeAt Go.RowKit

theorem emod_form (x m : Int) : ∃ k, x % m = x - m * k := ⟨x / m, Int.emod_def x m⟩
theorem emod_zero_of (m k : Int) : (m * k) % m = 0 := Int.mul_emod_right m k

theorem ring1 (g n α β i k1 k2 K k5 k6 X : Int) (hX : X = (β - n * k1) * i - n * k2) (ei : α * i = 1 + n * K) :
    (g * α + g * n * k5) * X - (g * β + g * n * k6) = g * n * (β * K - α * k1 * i - α * k2 + k5 * X - k6) := by
  have h : g * α * X = g * (β * (α * i)) - g * n * (α * k1 * i) - g * n * (α * k2) := by subst hX; clear ei; grind
  rw [ei] at h
  have h2 : (g * α + g * n * k5) * X = g * α * X + g * n * k5 * X := Int.add_mul _ _ _
  rw [h2, h]
  clear h h2 ei hX
  grind

theorem solve_math (a b m g i : Int) (hg : 1 ≤ g) (ha : g ∣ a % m) (hgm : g ∣ m) (hb : g ∣ b % m) (hi : (a % m / g * i) % (m / g) = 1 % (m / g)) :
    (a * ((b % m / g % (m / g) * i) % (m / g)) - b) % m = 0 := by
  obtain ⟨α, hα⟩ := ha
  obtain ⟨n, hn⟩ := hgm
  obtain ⟨β, hβ⟩ := hb
  have e1 : a % m / g = α := by rw [hα]; exact Int.mul_ediv_cancel_left _ (by omega)
  have e2 : m / g = n := by rw [hn]; exact Int.mul_ediv_cancel_left _ (by omega)
  have e3 : b % m / g = β := by rw [hβ]; exact Int.mul_ediv_cancel_left _ (by omega)
  rw [e1, e2] at hi
  rw [e2, e3]
  obtain ⟨k1, h1⟩ := emod_form β n
  obtain ⟨k2, h2⟩ := emod_form (β % n * i) n
  obtain ⟨k3, h3⟩ := emod_form (α * i) n
  obtain ⟨k4, h4⟩ := emod_form 1 n
  obtain ⟨k5, h5⟩ := emod_form a m
  obtain ⟨k6, h6⟩ := emod_form b m
  rw [h2, h1]
  have ea : a = g * α + m * k5 := by omega
  have eb : b = g * β + m * k6 := by omega
  have ei : α * i = 1 + n * (k3 - k4) := by grind
  have : a * ((β - n * k1) * i - n * k2) - b = m * (β * (k3 - k4) - α * k1 * i - α * k2 + k5 * ((β - n * k1) * i - n * k2) - k6) := by
    rw [ea, eb, hn]
    exact ring1 g n α β i k1 k2 (k3 - k4) k5 k6 _ rfl ei
  rw [this]; exact Int.mul_emod_right _ _

theorem mul_step (s a b p h m : Int) (hb : b = 2 * h + p) : ((s + p * a) % m + (a + a) % m * h) % m = (s + a * b) % m := by
  obtain ⟨k1, h1⟩ := emod_form (s + p * a) m
  obtain ⟨k2, h2⟩ := emod_form (a + a) m
  rw [h1, h2, hb]
  have : s + p * a - m * k1 + (a + a - m * k2) * h = (s + a * (2 * h + p)) + m * (-k1 - k2 * h) := by grind
  rw [this, Int.add_mul_emod_self_left]

theorem add_math (a b m : Int) : (a - (m - b)) % m = (a + b) % m := by
  rw [show a - (m - b) = a + b + m * (-1) by omega, Int.add_mul_emod_self_left]

theorem Add_any (a b m : Int) (w : World) (a0 : 0 ≤ a) (a1 : a < m) (b0 : 0 ≤ b) (b1 : b < m) (hm : m ≤ 4611686018427387904) :
    Calls Try.prog 45 #[.int .i64 a, .int .i64 b, .int .i64 m] w fun e w' => e = .returned (.int .i64 ((a + b) % m)) ∧ w = w' := by
  have H := Lib.hid (fun w => add_math a b m ▸ refmod_any (a - (m - b)) m w (by omega) (by omega))
  go_enter Try.func45, Try.ntmps45
  go_wp2_with (go_at_call 30; refine (H.out _).mono ?_; rintro e w' ⟨rfl, rfl⟩)
  go_ret
  exact ⟨rfl, rfl⟩

set_option maxHeartbeats 1000000 in
theorem refMul_any (a b m : Int) (w : World) (hm : 1 ≤ m) (hm2 : m ≤ 4611686018427387904) :
    Calls Try.prog 42 #[.int .i64 a, .int .i64 b, .int .i64 m] w fun e w' => e = .returned (.int .i64 (a * b % m)) ∧ w = w' := by
  obtain ⟨A, hA⟩ : ∃ A, a % m = A := ⟨_, rfl⟩
  obtain ⟨B, hB⟩ : ∃ B, b % m = B := ⟨_, rfl⟩
  have hres : A * B % m = a * b % m := by rw [← hA, ← hB, ← Int.mul_emod]
  have A0 : 0 ≤ A := by rw [← hA]; exact Int.emod_nonneg a (by omega)
  have A1 : A < m := by rw [← hA]; exact Int.emod_lt_of_pos a (by omega)
  have B0 : 0 ≤ B := by rw [← hB]; exact Int.emod_nonneg b (by omega)
  have B1 : B < m := by rw [← hB]; exact Int.emod_lt_of_pos b (by omega)
  have M1 := Lib.hid (fun w => hA ▸ refmod_any a m w hm (by omega))
  have M2 := Lib.hid (fun w => hB ▸ refmod_any b m w hm (by omega))
  have HR := Lib.hid hres
  clear hA hB hres
  go_enter Try.func42, Try.ntmps42
  go_wp2_with (go_at_call 30; first | ((with_reducible refine (M1.out _).mono ?_); rintro e w' ⟨rfl, rfl⟩) | ((with_reducible refine (M2.out _).mono ?_); rintro e w' ⟨rfl, rfl⟩))
  go_loop [0, 1, 7] (fun X Y S => ∃ x y s : Int, 0 ≤ x ∧ x < m ∧ 0 ≤ y ∧ y ≤ 4611686018427387904 ∧ 0 ≤ s ∧ s < m ∧ Hid ((s + x * y) % m = A * B % m) ∧ X = .int .i64 x ∧ Y = .int .i64 y ∧ S = .int .i64 s) (fun _ Y _ => (intOf Y).toNat)
  case atStart => exact ⟨A, B, 0, A0, A1, B0, by omega, by omega, by omega, Lib.hid (by rw [Int.zero_add]), rfl, rfl, rfl⟩
  case round =>
    obtain ⟨x, y, s, x0, x1, y0, y1, s0, s1, hI, rfl, rfl, rfl⟩ := hrel
    by_cases hy : 0 < y
    · have d1 := Int.emod_nonneg (x + x) (show m ≠ 0 by omega)
      have d2 := Int.emod_lt_of_pos (x + x) (show 0 < m by omega)
      have d3 := Int.emod_nonneg (s + x) (show m ≠ 0 by omega)
      have d4 := Int.emod_lt_of_pos (s + x) (show 0 < m by omega)
      rcases Int.emod_two_eq y with hp | hp
      · have hq : (y % 2 == 1) = false := by simp; omega
        have HN := Lib.hid (show ((s + (x + x) % m * (y / 2)) % m) = A * B % m by
          have := mul_step s x y 0 (y / 2) m (by omega)
          rw [Int.zero_mul, Int.add_zero, Int.emod_eq_of_lt s0 s1] at this
          rw [this]; exact hI.out)
        obtain ⟨h, hh⟩ : ∃ h, y / 2 = h := ⟨_, rfl⟩
        have h1 : 0 ≤ h ∧ h < y := by omega
        have D1 := Lib.hid (fun w => Add_any x x m w x0 x1 x0 x1 hm2)
        rw [hh] at HN
        generalize (x + x) % m = x' at *
        clear hp d3 d4
        go_wp2_with (go_at_call 45; refine (D1.out _).mono ?_; rintro e w' ⟨rfl, rfl⟩)
        go_round
        case rel => exact ⟨x', h, s, d1, d2, h1.1, by omega, s0, s1, HN, rfl, by rw [hh], rfl⟩
        case measure => simp [intOf]; omega
      · have hq : (y % 2 == 1) = true := by simp; omega
        have HN := Lib.hid (show (((s + x) % m + (x + x) % m * (y / 2)) % m) = A * B % m by
          have := mul_step s x y 1 (y / 2) m (by omega)
          rw [Int.one_mul] at this
          rw [this]; exact hI.out)
        obtain ⟨h, hh⟩ : ∃ h, y / 2 = h := ⟨_, rfl⟩
        have h1 : 0 ≤ h ∧ h < y := by omega
        have D1 := Lib.hid (fun w => Add_any x x m w x0 x1 x0 x1 hm2)
        have D2 := Lib.hid (fun w => Add_any s x m w s0 s1 x0 x1 hm2)
        rw [hh] at HN
        generalize (x + x) % m = x' at *
        generalize (s + x) % m = s' at *
        clear hp
        go_wp2_with (go_at_call 45; first | ((with_reducible refine (D1.out _).mono ?_); rintro e w' ⟨rfl, rfl⟩) | ((with_reducible refine (D2.out _).mono ?_); rintro e w' ⟨rfl, rfl⟩))
        go_round
        case rel => exact ⟨x', h, s', d1, d2, h1.1, by omega, d3, d4, HN, rfl, by rw [hh], rfl⟩
        case measure => simp [intOf]; omega
    · obtain rfl : y = 0 := by omega
      go_wp2
      go_ret
      exact ⟨ret_int (by have := hI.out; rw [Int.mul_zero, Int.add_zero, Int.emod_eq_of_lt s0 s1] at this; rw [this, HR.out]), rfl⟩

theorem Solves_any (a b m x : Int) (w : World) (hm : 1 ≤ m) (hm2 : m ≤ 4611686018427387904) :
    Calls Try.prog 31 #[.int .i64 a, .int .i64 b, .int .i64 m, .int .i64 x] w fun e w' => e = .returned (.bool (a * x % m == b % m)) ∧ w = w' := by
  have H1 := Lib.hid (fun w => refMul_any a x m w hm hm2)
  have H2 := Lib.hid (fun w => refmod_any b m w hm (by omega))
  generalize a * x % m = u at *
  generalize b % m = v at *
  go_enter Try.func31, Try.ntmps31
  go_wp2_with (first | (go_at_call 42; refine (H1.out _).mono ?_; rintro e w' ⟨rfl, rfl⟩) | (go_at_call 30; refine (H2.out _).mono ?_; rintro e w' ⟨rfl, rfl⟩))
  go_ret
  exact ⟨rfl, rfl⟩
end Go.Proofs.Ytgicdfhhaefibaa
