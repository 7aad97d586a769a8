/- math/bits.Div64 divides 128 bits by 64 bits: the walk over both digits. -/
import Derived.Test.YtgicdfhhaefibaaAwk
import Derived.Test.YtgicdfhhaefibaaKnu
import Derived.Laws.Bits64b
namespace Go.Proofs.Ytgicdfhhaefibaa
open Go.Sort Go.ChangeShapes Go.WideShapes Go.ChangeAt Go.RowKit

def DivPost (U C1 C0 Y : Int) (c : Nat) (w : World) (e : Ending) (w' : World) : Prop :=
  ∃ x t2 : Int, e = .returned (.tuple #[.int .u64 x, .int .u64 (t2 / 2 ^ c)]) ∧ (∃ q1 t q0 : Int, U * 4294967296 + C1 = q1 * Y + t ∧ t * 4294967296 + C0 = q0 * Y + t2 ∧ 0 ≤ t2 ∧ t2 < Y) ∧ w = w'

set_option maxHeartbeats 8000000 in
set_option maxRecDepth 100000 in
theorem Div64_walk (hi lo y Y A B HS LS U V C1 C0 : Int) (c : Nat) (w : World) (h0 : 0 < hi) (h1 : hi < y) (hy2 : y ≤ 18446744073709551615)
    (hk : (64 - (Lib.bitLen y.toNat : Int)) = c) (k1 : c ≤ 63) (E1 : IntKind.u64.wrap (y * 2 ^ c) = Y) (E2 : Y / 4294967296 = A) (E3 : bits .and .u64 Y 4294967295 = B) (E4 : IntKind.u64.wrap (hi * 2 ^ c) = HS)
    (E5 : lo / 2 ^ (64 - c) = LS) (E6 : bits .or .u64 HS LS = U) (E7 : IntKind.u64.wrap (lo * 2 ^ c) = V) (E8 : V / 4294967296 = C1) (E9 : bits .and .u64 V 4294967295 = C0)
    (y1 : 9223372036854775808 ≤ Y) (y2 : Y ≤ 18446744073709551615) (a1 : 2147483648 ≤ A) (a2 : A < 4294967296) (b1 : 0 ≤ B) (b2 : B < 4294967296) (hY : Y = A * 4294967296 + B)
    (u0 : 0 ≤ U) (hua : U < Y) (hc0a : 0 ≤ C1) (hc1a : C1 < 4294967296) (hc0b : 0 ≤ C0) (hc1b : C0 < 4294967296) :
    Calls Try.prog 46 #[.int .u64 hi, .int .u64 lo, .int .u64 y] w (DivPost U C1 C0 Y c w) := by
  have hb : (y == 0) = false := by simp; omega
  have hb2 : (hi == 0) = false := by simp; omega
  have H := Lib.hid (show ∀ w, Calls Try.prog 47 #[.int .u64 y] w fun e w' => e = .returned (.int .i64 c) ∧ w' = w from fun w => hk ▸ Try.bits_LeadingZeros64 y w (by omega) hy2)
  have HY := Lib.hid hY
  obtain ⟨qi, qa, ri, f1, f2, f3, s1a, s2a, s3a, s4a, s5⟩ := dig_start2 U Y A B C1 hY a1 a2 b1 b2 u0 hua hc0a hc1a y2
  have s5a := Lib.hid s5
  clear hk hY s5
  go_enter Try.func46, Try.ntmps46
  go_wp2_with (go_at_call 47; refine (H.out _).mono ?_; rintro e w' ⟨rfl, hw⟩; rw [hw]; clear hw)
  clear f1 f2 f3
  go_loop [15, 16] (fun Q R => ∃ q r : Int, Q = .int .u64 q ∧ R = .int .u64 r ∧ 0 ≤ q ∧ q ≤ 4294967297 ∧ 0 ≤ r ∧ r < 4294967296 ∧ Hid (DigInv U Y A C1 q r)) (fun Q _ => (intOf Q).toNat)
  case atStart => exact ⟨_, _, rfl, rfl, s1a, s2a, s3a, s4a, s5a⟩
  case round =>
    obtain ⟨qa, ra, rfl, rfl, q0a, q1a, r0a, r1a, hIa⟩ := hrel
    by_cases hge : 4294967296 ≤ qa
    · obtain ⟨p1, p2, p3⟩ := dig_step U Y A B C1 qa ra HY.out hua hc1a hc0a hIa.out.1 r0a q0a (by omega) (.inl hge)
      have hJ := Lib.hid (And.intro p2 p3)
      clear p2 p3
      by_cases hbr : 4294967296 ≤ ra + A
      · obtain ⟨uma, usa, qya, ta, w1a, w2a, w3a, w4a, n1a, n2a, n3a⟩ := dig_wraps U C1 (qa - 1) Y (dig_break U Y A B C1 (qa - 1) (ra + A) HY.out b1 b2 hc0a hJ.out.1 (by omega) hbr) (hJ.out.2) y2
        have Ma := Lib.hid n1a
        clear n1a
        obtain ⟨qi2, qa2, ri2, g1, g2, g3, s1b, s2b, s3b, s4b, s5⟩ := dig_start2 ta Y A B C0 HY.out a1 a2 b1 b2 n2a n3a hc0b hc1b y2
        have s5b := Lib.hid s5
        have hub := n3a
        clear s5
        go_wp2
        go_loop [18, 16] (fun Q R => ∃ q r : Int, Q = .int .u64 q ∧ R = .int .u64 r ∧ 0 ≤ q ∧ q ≤ 4294967297 ∧ 0 ≤ r ∧ r < 4294967296 ∧ Hid (DigInv ta Y A C0 q r)) (fun Q _ => (intOf Q).toNat)
        case atStart => exact ⟨_, _, rfl, rfl, s1b, s2b, s3b, s4b, s5b⟩
        case round =>
          obtain ⟨qb, rb, rfl, rfl, q0b, q1b, r0b, r1b, hIb⟩ := hrel
          by_cases hge : 4294967296 ≤ qb
          · obtain ⟨p1, p2, p3⟩ := dig_step ta Y A B C0 qb rb HY.out hub hc1b hc0b hIb.out.1 r0b q0b (by omega) (.inl hge)
            have hJ := Lib.hid (And.intro p2 p3)
            clear p2 p3
            by_cases hbr : 4294967296 ≤ rb + A
            · obtain ⟨umb, usb, qyb, tb, w1b, w2b, w3b, w4b, n1b, n2b, n3b⟩ := dig_wraps ta C0 (qb - 1) Y (dig_break ta Y A B C0 (qb - 1) (rb + A) HY.out b1 b2 hc0b hJ.out.1 (by omega) hbr) (hJ.out.2) y2
              have Mb := Lib.hid n1b
              clear n1b
              go_wp2
              go_ret2
              exact ⟨_, _, rfl, ⟨_, _, _, Ma.out, Mb.out, n2b, n3b⟩, rfl⟩
            · go_wp2
              go_round
              case rel => exact ⟨qb - 1, rb + A, rfl, rfl, by omega, by omega, by omega, by omega, hJ⟩
              case measure => simp [intOf]; omega
          · obtain ⟨pb1, pb2⟩ := prod_bd qb B q0b (by omega) b1 b2
            obtain ⟨qbb, hqb⟩ : ∃ z, qb * B = z := ⟨_, rfl⟩
            rw [hqb] at pb1 pb2
            have wqb : IntKind.u64.wrap (qb * B) = qbb := by rw [hqb]; exact IntWalk.u64_in _ ⟨pb1, pb2⟩
            have HQ := Lib.hid hqb
            clear hqb
            by_cases hgt : 4294967296 * rb + C0 < qbb
            · obtain ⟨p1, p2, p3⟩ := dig_step ta Y A B C0 qb rb HY.out hub hc1b hc0b hIb.out.1 r0b q0b (by omega) (.inr (by rw [HQ.out]; exact hgt))
              have hJ := Lib.hid (And.intro p2 p3)
              clear p2 p3
              by_cases hbr : 4294967296 ≤ rb + A
              · obtain ⟨umb, usb, qyb, tb, w1b, w2b, w3b, w4b, n1b, n2b, n3b⟩ := dig_wraps ta C0 (qb - 1) Y (dig_break ta Y A B C0 (qb - 1) (rb + A) HY.out b1 b2 hc0b hJ.out.1 (by omega) hbr) (hJ.out.2) y2
                have Mb := Lib.hid n1b
                clear n1b
                go_wp2
                go_ret2
                exact ⟨_, _, rfl, ⟨_, _, _, Ma.out, Mb.out, n2b, n3b⟩, rfl⟩
              · go_wp2
                go_round
                case rel => exact ⟨qb - 1, rb + A, rfl, rfl, by omega, by omega, by omega, by omega, hJ⟩
                case measure => simp [intOf]; omega
            · obtain ⟨umb, usb, qyb, tb, w1b, w2b, w3b, w4b, n1b, n2b, n3b⟩ := dig_wraps ta C0 qb Y (dig_exit ta Y A B C0 qb rb HY.out hIb.out.1 (by rw [HQ.out]; omega)) (hIb.out.2) y2
              have Mb := Lib.hid n1b
              clear n1b
              go_wp2
              go_ret2
              exact ⟨_, _, rfl, ⟨_, _, _, Ma.out, Mb.out, n2b, n3b⟩, rfl⟩
      · go_wp2
        go_round
        case rel => exact ⟨qa - 1, ra + A, rfl, rfl, by omega, by omega, by omega, by omega, hJ⟩
        case measure => simp [intOf]; omega
    · obtain ⟨pb1, pb2⟩ := prod_bd qa B q0a (by omega) b1 b2
      obtain ⟨qba, hqb⟩ : ∃ z, qa * B = z := ⟨_, rfl⟩
      rw [hqb] at pb1 pb2
      have wqb : IntKind.u64.wrap (qa * B) = qba := by rw [hqb]; exact IntWalk.u64_in _ ⟨pb1, pb2⟩
      have HQ := Lib.hid hqb
      clear hqb
      by_cases hgt : 4294967296 * ra + C1 < qba
      · obtain ⟨p1, p2, p3⟩ := dig_step U Y A B C1 qa ra HY.out hua hc1a hc0a hIa.out.1 r0a q0a (by omega) (.inr (by rw [HQ.out]; exact hgt))
        have hJ := Lib.hid (And.intro p2 p3)
        clear p2 p3
        by_cases hbr : 4294967296 ≤ ra + A
        · obtain ⟨uma, usa, qya, ta, w1a, w2a, w3a, w4a, n1a, n2a, n3a⟩ := dig_wraps U C1 (qa - 1) Y (dig_break U Y A B C1 (qa - 1) (ra + A) HY.out b1 b2 hc0a hJ.out.1 (by omega) hbr) (hJ.out.2) y2
          have Ma := Lib.hid n1a
          clear n1a
          obtain ⟨qi2, qa2, ri2, g1, g2, g3, s1b, s2b, s3b, s4b, s5⟩ := dig_start2 ta Y A B C0 HY.out a1 a2 b1 b2 n2a n3a hc0b hc1b y2
          have s5b := Lib.hid s5
          have hub := n3a
          clear s5
          go_wp2
          go_loop [18, 16] (fun Q R => ∃ q r : Int, Q = .int .u64 q ∧ R = .int .u64 r ∧ 0 ≤ q ∧ q ≤ 4294967297 ∧ 0 ≤ r ∧ r < 4294967296 ∧ Hid (DigInv ta Y A C0 q r)) (fun Q _ => (intOf Q).toNat)
          case atStart => exact ⟨_, _, rfl, rfl, s1b, s2b, s3b, s4b, s5b⟩
          case round =>
            obtain ⟨qb, rb, rfl, rfl, q0b, q1b, r0b, r1b, hIb⟩ := hrel
            by_cases hge : 4294967296 ≤ qb
            · obtain ⟨p1, p2, p3⟩ := dig_step ta Y A B C0 qb rb HY.out hub hc1b hc0b hIb.out.1 r0b q0b (by omega) (.inl hge)
              have hJ := Lib.hid (And.intro p2 p3)
              clear p2 p3
              by_cases hbr : 4294967296 ≤ rb + A
              · obtain ⟨umb, usb, qyb, tb, w1b, w2b, w3b, w4b, n1b, n2b, n3b⟩ := dig_wraps ta C0 (qb - 1) Y (dig_break ta Y A B C0 (qb - 1) (rb + A) HY.out b1 b2 hc0b hJ.out.1 (by omega) hbr) (hJ.out.2) y2
                have Mb := Lib.hid n1b
                clear n1b
                go_wp2
                go_ret2
                exact ⟨_, _, rfl, ⟨_, _, _, Ma.out, Mb.out, n2b, n3b⟩, rfl⟩
              · go_wp2
                go_round
                case rel => exact ⟨qb - 1, rb + A, rfl, rfl, by omega, by omega, by omega, by omega, hJ⟩
                case measure => simp [intOf]; omega
            · obtain ⟨pb1, pb2⟩ := prod_bd qb B q0b (by omega) b1 b2
              obtain ⟨qbb, hqb⟩ : ∃ z, qb * B = z := ⟨_, rfl⟩
              rw [hqb] at pb1 pb2
              have wqb : IntKind.u64.wrap (qb * B) = qbb := by rw [hqb]; exact IntWalk.u64_in _ ⟨pb1, pb2⟩
              have HQ := Lib.hid hqb
              clear hqb
              by_cases hgt : 4294967296 * rb + C0 < qbb
              · obtain ⟨p1, p2, p3⟩ := dig_step ta Y A B C0 qb rb HY.out hub hc1b hc0b hIb.out.1 r0b q0b (by omega) (.inr (by rw [HQ.out]; exact hgt))
                have hJ := Lib.hid (And.intro p2 p3)
                clear p2 p3
                by_cases hbr : 4294967296 ≤ rb + A
                · obtain ⟨umb, usb, qyb, tb, w1b, w2b, w3b, w4b, n1b, n2b, n3b⟩ := dig_wraps ta C0 (qb - 1) Y (dig_break ta Y A B C0 (qb - 1) (rb + A) HY.out b1 b2 hc0b hJ.out.1 (by omega) hbr) (hJ.out.2) y2
                  have Mb := Lib.hid n1b
                  clear n1b
                  go_wp2
                  go_ret2
                  exact ⟨_, _, rfl, ⟨_, _, _, Ma.out, Mb.out, n2b, n3b⟩, rfl⟩
                · go_wp2
                  go_round
                  case rel => exact ⟨qb - 1, rb + A, rfl, rfl, by omega, by omega, by omega, by omega, hJ⟩
                  case measure => simp [intOf]; omega
              · obtain ⟨umb, usb, qyb, tb, w1b, w2b, w3b, w4b, n1b, n2b, n3b⟩ := dig_wraps ta C0 qb Y (dig_exit ta Y A B C0 qb rb HY.out hIb.out.1 (by rw [HQ.out]; omega)) (hIb.out.2) y2
                have Mb := Lib.hid n1b
                clear n1b
                go_wp2
                go_ret2
                exact ⟨_, _, rfl, ⟨_, _, _, Ma.out, Mb.out, n2b, n3b⟩, rfl⟩
        · go_wp2
          go_round
          case rel => exact ⟨qa - 1, ra + A, rfl, rfl, by omega, by omega, by omega, by omega, hJ⟩
          case measure => simp [intOf]; omega
      · obtain ⟨uma, usa, qya, ta, w1a, w2a, w3a, w4a, n1a, n2a, n3a⟩ := dig_wraps U C1 qa Y (dig_exit U Y A B C1 qa ra HY.out hIa.out.1 (by rw [HQ.out]; omega)) (hIa.out.2) y2
        have Ma := Lib.hid n1a
        clear n1a
        obtain ⟨qi2, qa2, ri2, g1, g2, g3, s1b, s2b, s3b, s4b, s5⟩ := dig_start2 ta Y A B C0 HY.out a1 a2 b1 b2 n2a n3a hc0b hc1b y2
        have s5b := Lib.hid s5
        have hub := n3a
        clear s5
        go_wp2
        go_loop [18, 16] (fun Q R => ∃ q r : Int, Q = .int .u64 q ∧ R = .int .u64 r ∧ 0 ≤ q ∧ q ≤ 4294967297 ∧ 0 ≤ r ∧ r < 4294967296 ∧ Hid (DigInv ta Y A C0 q r)) (fun Q _ => (intOf Q).toNat)
        case atStart => exact ⟨_, _, rfl, rfl, s1b, s2b, s3b, s4b, s5b⟩
        case round =>
          obtain ⟨qb, rb, rfl, rfl, q0b, q1b, r0b, r1b, hIb⟩ := hrel
          by_cases hge : 4294967296 ≤ qb
          · obtain ⟨p1, p2, p3⟩ := dig_step ta Y A B C0 qb rb HY.out hub hc1b hc0b hIb.out.1 r0b q0b (by omega) (.inl hge)
            have hJ := Lib.hid (And.intro p2 p3)
            clear p2 p3
            by_cases hbr : 4294967296 ≤ rb + A
            · obtain ⟨umb, usb, qyb, tb, w1b, w2b, w3b, w4b, n1b, n2b, n3b⟩ := dig_wraps ta C0 (qb - 1) Y (dig_break ta Y A B C0 (qb - 1) (rb + A) HY.out b1 b2 hc0b hJ.out.1 (by omega) hbr) (hJ.out.2) y2
              have Mb := Lib.hid n1b
              clear n1b
              go_wp2
              go_ret2
              exact ⟨_, _, rfl, ⟨_, _, _, Ma.out, Mb.out, n2b, n3b⟩, rfl⟩
            · go_wp2
              go_round
              case rel => exact ⟨qb - 1, rb + A, rfl, rfl, by omega, by omega, by omega, by omega, hJ⟩
              case measure => simp [intOf]; omega
          · obtain ⟨pb1, pb2⟩ := prod_bd qb B q0b (by omega) b1 b2
            obtain ⟨qbb, hqb⟩ : ∃ z, qb * B = z := ⟨_, rfl⟩
            rw [hqb] at pb1 pb2
            have wqb : IntKind.u64.wrap (qb * B) = qbb := by rw [hqb]; exact IntWalk.u64_in _ ⟨pb1, pb2⟩
            have HQ := Lib.hid hqb
            clear hqb
            by_cases hgt : 4294967296 * rb + C0 < qbb
            · obtain ⟨p1, p2, p3⟩ := dig_step ta Y A B C0 qb rb HY.out hub hc1b hc0b hIb.out.1 r0b q0b (by omega) (.inr (by rw [HQ.out]; exact hgt))
              have hJ := Lib.hid (And.intro p2 p3)
              clear p2 p3
              by_cases hbr : 4294967296 ≤ rb + A
              · obtain ⟨umb, usb, qyb, tb, w1b, w2b, w3b, w4b, n1b, n2b, n3b⟩ := dig_wraps ta C0 (qb - 1) Y (dig_break ta Y A B C0 (qb - 1) (rb + A) HY.out b1 b2 hc0b hJ.out.1 (by omega) hbr) (hJ.out.2) y2
                have Mb := Lib.hid n1b
                clear n1b
                go_wp2
                go_ret2
                exact ⟨_, _, rfl, ⟨_, _, _, Ma.out, Mb.out, n2b, n3b⟩, rfl⟩
              · go_wp2
                go_round
                case rel => exact ⟨qb - 1, rb + A, rfl, rfl, by omega, by omega, by omega, by omega, hJ⟩
                case measure => simp [intOf]; omega
            · obtain ⟨umb, usb, qyb, tb, w1b, w2b, w3b, w4b, n1b, n2b, n3b⟩ := dig_wraps ta C0 qb Y (dig_exit ta Y A B C0 qb rb HY.out hIb.out.1 (by rw [HQ.out]; omega)) (hIb.out.2) y2
              have Mb := Lib.hid n1b
              clear n1b
              go_wp2
              go_ret2
              exact ⟨_, _, rfl, ⟨_, _, _, Ma.out, Mb.out, n2b, n3b⟩, rfl⟩
end Go.Proofs.Ytgicdfhhaefibaa
