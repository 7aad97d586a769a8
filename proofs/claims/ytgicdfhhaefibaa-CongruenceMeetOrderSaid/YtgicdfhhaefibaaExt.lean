/- Extended returns the greatest common divisor and coefficients within bounds; inverse returns an inverse. -/
import Derived.Test.YtgicdfhhaefibaaCnt
import Derived.Test.YtgicdfhhaefibaaEuc
namespace Go.Proofs.Ytgicdfhhaefibaa
open Go.Sort Go.ChangeShapes Go.WideShapes Go.ChangeAt Go.RowKit

theorem end_bd {A B g x y : Int} (h : ExtEnd A B g x y) (hA0 : 0 ≤ A) (hB0 : 0 ≤ B) (hA : A ≤ 9223372036854775807) (hB : B ≤ 9223372036854775807) (hg : 1 ≤ g) :
    -9223372036854775807 ≤ x ∧ x ≤ 9223372036854775807 ∧ -9223372036854775807 ≤ y ∧ y ≤ 9223372036854775807 := by
  obtain ⟨_, _, p, c, p0, c0, hp, hc, hs⟩ := h
  have p1 : p ≤ 9223372036854775807 := by
    rcases hp with h | h
    · omega
    · have := le_of_mul_pos p g B p0 hg h; omega
  have c1 : c ≤ 9223372036854775807 := by
    rcases hc with h | h
    · omega
    · have := le_of_mul_pos c g A c0 hg h; omega
  omega

def sgn (a x : Int) : Int := if a < 0 then -x else x

theorem sgn_neg (a x : Int) (h : a < 0) : sgn a (-x) = x := by simp [sgn, h]
theorem sgn_pos (a x : Int) (h : ¬ a < 0) : sgn a x = x := by simp [sgn, h]

def ExtPost (a b : Int) (w : World) (e : Ending) (w' : World) : Prop :=
  ∃ g x y : Int, e = .returned (.tuple #[.int .i64 g, .int .i64 x, .int .i64 y]) ∧ ExtEnd (absl a) (absl b) g (sgn a x) (sgn b y) ∧
    -9223372036854775807 ≤ x ∧ x ≤ 9223372036854775807 ∧ -9223372036854775807 ≤ y ∧ y ≤ 9223372036854775807 ∧ w = w'

theorem absl_zero (a : Int) : absl a = 0 ↔ a = 0 := by
  unfold absl; split
  · omega
  · split <;> omega

theorem Ext_zero (w : World) : Calls Try.prog 32 #[.int .i64 0, .int .i64 0] w (ExtPost 0 0 w) := by
  have H := Lib.hid (show Calls Try.prog 43 #[.int .i64 0] w fun e w' => e = .returned (.int .i64 0) ∧ w = w' from absolute_any 0 w (by omega) (by omega))
  go_enter Try.func32, Try.ntmps32
  go_wp2_with (go_at_call 43; refine H.out.mono ?_; rintro e w' ⟨rfl, rfl⟩)
  go_ret3
  exact ⟨0, 0, 0, rfl, ⟨rfl, rfl, 0, 0, by omega, by omega, .inl (by omega), .inl (by omega), .inl ⟨rfl, rfl⟩⟩, by omega, by omega, by omega, by omega, rfl⟩

set_option maxHeartbeats 4000000 in
theorem Ext_pos (a b : Int) (w : World) (ha : -9223372036854775808 ≤ a) (ha2 : a ≤ 9223372036854775807) (hb : -9223372036854775808 ≤ b) (hb2 : b ≤ 9223372036854775807) (hz : ¬ (a = 0 ∧ b = 0)) :
    Calls Try.prog 32 #[.int .i64 a, .int .i64 b] w (ExtPost a b w) := by
  obtain ⟨A, hA⟩ : ∃ A, absl a = A := ⟨_, rfl⟩
  obtain ⟨B, hB⟩ : ∃ B, absl b = B := ⟨_, rfl⟩
  obtain ⟨a1, a2⟩ := hA ▸ absl_bd a ha ha2
  obtain ⟨b1, b2⟩ := hB ▸ absl_bd b hb hb2
  have hg1 : (1 : Int) ≤ (Int.gcd A B : Nat) := by
    have : Int.gcd A B ≠ 0 := by
      rw [ne_eq, Int.gcd_eq_zero_iff, ← hA, ← hB, absl_zero, absl_zero]; exact hz
    omega
  have H1 := Lib.hid (fun w => hA ▸ absolute_any a w ha ha2)
  have H2 := Lib.hid (fun w => hB ▸ absolute_any b w hb hb2)
  have HG := Lib.hid hg1
  have HA := Lib.hid hA
  have HB := Lib.hid hB
  have hzz : (A == 0) = false ∨ (A = 0 ∧ (B == 0) = false) := by
    by_cases h : A = 0
    · right
      refine ⟨h, ?_⟩
      simp only [beq_eq_false_iff_ne, ne_eq]
      intro h2
      exact hz ⟨(absl_zero a).1 (hA.trans h), (absl_zero b).1 (hB.trans h2)⟩
    · left; simpa using h
  clear hg1 hA hB hz
  by_cases sa : a < 0 <;> by_cases sb : b < 0
  all_goals
    rcases hzz with hz | ⟨rfl, hz⟩
  all_goals
    go_enter Try.func32, Try.ntmps32
    go_wp2_with (go_at_call 43; first | ((with_reducible refine (H1.out _).mono ?_); rintro e w' ⟨rfl, rfl⟩) | ((with_reducible refine (H2.out _).mono ?_); rintro e w' ⟨rfl, rfl⟩))
    clear hz
    go_loop [7, 8, 9, 10, 11, 12] (fun R S X Y U V => ∃ r s x y u v : Int, 0 ≤ r ∧ 0 ≤ s ∧ r ≤ 9223372036854775807 ∧ s ≤ 9223372036854775807 ∧ ExtInv _ B r s x y u v ∧ R = .int .i64 r ∧ S = .int .i64 s ∧ X = .int .i64 x ∧ Y = .int .i64 y ∧ U = .int .i64 u ∧ V = .int .i64 v) (fun _ S _ _ _ _ => (intOf S).toNat)
    case atStart => exact ⟨_, _, _, _, _, _, a1, b1, a2, b2, ext_start _ _ a1 b1, rfl, rfl, rfl, rfl, rfl, rfl⟩
    case round =>
      obtain ⟨r, s, x, y, u, v, r0, s0, r1, s1, hI, rfl, rfl, rfl, rfl, rfl, rfl⟩ := hrel
      by_cases hs0 : s = 0
      · subst hs0
        have hE := ext_end hI
        obtain ⟨q1, q2, q3, q4⟩ := end_bd hE a1 b1 a2 b2 (by rw [hE.1]; exact HG.out)
        have HE := Lib.hid hE
        clear hI hE
        go_wp2
        go_ret3
        exact ⟨_, _, _, rfl, by rw [HA.out, HB.out]; (first | rw [sgn_neg a x sa] | rw [sgn_pos a x (by omega)]); (first | rw [sgn_neg b y sb] | rw [sgn_pos b y (by omega)]); exact HE.out, by omega, by omega, by omega, by omega, rfl⟩
      · have hs1 : 1 ≤ s := by omega
        have hsb : (s != 0) = true := by simpa using hs0
        obtain ⟨k, hk⟩ : ∃ k, r / s = k := ⟨_, rfl⟩
        obtain ⟨ks, s', ku, u', kv, v', e1, e2, e3, e4, e5, e6, hI2, s20, hlt⟩ := ext_step2 hI hs1 hk r1 a2 b2
        have HI := Lib.hid hI2
        clear hI hI2 hs0
        go_wp2
        go_round
        case rel => exact ⟨s, s', u, v, u', v', s0, s20, s1, by omega, HI.out, rfl, by first | rfl | rw [e2], rfl, rfl, by rw [e4], by rw [e6]⟩
        case measure => simp [intOf]; omega
theorem Ext_any (a b : Int) (w : World) (ha : -9223372036854775808 ≤ a) (ha2 : a ≤ 9223372036854775807) (hb : -9223372036854775808 ≤ b) (hb2 : b ≤ 9223372036854775807) :
    Calls Try.prog 32 #[.int .i64 a, .int .i64 b] w (ExtPost a b w) := by
  by_cases h : a = 0 ∧ b = 0
  · obtain ⟨rfl, rfl⟩ := h; exact Ext_zero w
  · exact Ext_pos a b w ha ha2 hb hb2 h

/-- The inverse of a modulo m, if they have no common divisor. -/
def InvPost (a m : Int) (w : World) (e : Ending) (w' : World) : Prop := ∃ x : Int, e = .returned (.int .i64 x) ∧ 0 ≤ x ∧ x < m ∧ (a * x) % m = 1 % m ∧ w = w'

theorem gcd_step'' (a m : Int) : Int.gcd m (a % m) = Int.gcd a m := by
  have h := Int.emod_add_mul_ediv a m
  conv => rhs; rw [← h]
  rw [Int.gcd_add_mul_left_left, Int.gcd_comm]

theorem inv_math (a m g x y : Int) (hm : 1 ≤ m) (hg : Int.gcd a m = 1) (h : ExtEnd (absl (a % m)) (absl m) g (sgn (a % m) x) (sgn m y)) (hm2 : m ≤ 9223372036854775807) : (a * (x % m)) % m = 1 % m := by
  have e0 := Int.emod_nonneg a (show m ≠ 0 by omega)
  have e1 := Int.emod_lt_of_pos a (show 0 < m by omega)
  have a1 : absl (a % m) = a % m := by unfold absl; rw [if_neg (by omega), if_neg (by omega)]
  have a2 : absl m = m := by unfold absl; rw [if_neg (by omega), if_neg (by omega)]
  rw [a1, a2, sgn_pos _ _ (by omega), sgn_pos _ _ (by omega)] at h
  obtain ⟨h1, h2, _⟩ := h
  have hg' : g = 1 := by
    rw [h1, Int.gcd_comm, gcd_step'' a m, hg]; rfl
  rw [hg'] at h2
  have h3 : a * x = 1 + m * (-y + a / m * x) := by
    have := Int.emod_add_mul_ediv a m
    grind
  rw [Int.mul_emod, Int.emod_emod, ← Int.mul_emod, h3, Int.add_mul_emod_self_left]

theorem inverse_any (a m : Int) (w : World) (hm : 1 ≤ m) (hm2 : m ≤ 9223372036854775807) (hg : Int.gcd a m = 1) :
    Calls Try.prog 41 #[.int .i64 a, .int .i64 m] w (InvPost a m w) := by
  have e0 := Int.emod_nonneg a (show m ≠ 0 by omega)
  have e1 := Int.emod_lt_of_pos a (show 0 < m by omega)
  have H := Lib.hid (fun w => Ext_any (a % m) m w (by omega) (by omega) (by omega) hm2)
  have H2 := Lib.hid hg
  clear hg
  go_enter Try.func41, Try.ntmps41
  go_wp2_with (first | (go_at_call 35; first | ((with_reducible refine (mod_any a m _ hm hm2).mono ?_); rintro e w' ⟨rfl, rfl⟩) | (refine (mod_any _ m _ hm hm2).mono ?_; rintro e w' ⟨rfl, rfl⟩)) | (go_at_call 32; refine (H.out _).mono ?_; rintro e w' ⟨g, x, y, rfl, hE, _, _, _, _, rfl⟩; have HE := Lib.hid hE; clear hE))
  go_ret
  exact ⟨_, rfl, Int.emod_nonneg _ (by omega), Int.emod_lt_of_pos _ (by omega), inv_math a m _ _ _ hm H2.out HE.out hm2, rfl⟩
end Go.Proofs.Ytgicdfhhaefibaa
