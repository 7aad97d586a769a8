/- The reference tells whether two classes have a common element, and their least common multiple. -/
import Derived.Test.YtgicdfhhaefibaaKep
namespace Go.Proofs.Ytgicdfhhaefibaa
open Go.Sort Go.ChangeShapes Go.WideShapes Go.ChangeAt Go.RowKit

theorem absl_pos (a : Int) (h : 0 ≤ a) : absl a = a := by unfold absl; rw [if_neg (by omega), if_neg (by omega)]

theorem refgcd_pos (a b g : Int) (w : World) (a0 : 0 ≤ a) (a1 : a ≤ 9223372036854775807) (b0 : 0 ≤ b) (b1 : b ≤ 9223372036854775807) (hg : ((Int.gcd a b : Nat) : Int) = g) :
    Calls Try.prog 29 #[.int .i64 a, .int .i64 b] w fun e w' => e = .returned (.int .i64 g) ∧ ∃ n, w' = w.drewN n := by
  have := refgcd_any a b w (by omega) a1 (by omega) b1
  rw [absl_pos a a0, absl_pos b b0, hg] at this
  exact this

theorem Met_any (r1 m1 r2 m2 g u v : Int) (w : World) (p1 : 1 ≤ m1) (p2 : m1 ≤ 4611686018427387904) (q1 : 1 ≤ m2) (q2 : m2 ≤ 4611686018427387904) (hg : ((Int.gcd m1 m2 : Nat) : Int) = g) (g1 : 1 ≤ g) (g2 : g ≤ m2) (hu : r1 % g = u) (hv : r2 % g = v) :
    Calls Try.prog 21 #[.agg #[.int .i64 r1, .int .i64 m1], .agg #[.int .i64 r2, .int .i64 m2]] w fun e w' => e = .returned (.bool (u == v)) ∧ Below w.heap.size w w' := by
  have G := Lib.hid (fun w => drawn_below (refgcd_pos m1 m2 g w (by omega) (by omega) (by omega) (by omega) hg))
  have U := Lib.hid (fun w => pure_below (refmod_is r1 g u w g1 (by omega) hu))
  have V := Lib.hid (fun w => pure_below (refmod_is r2 g v w g1 (by omega) hv))
  clear hg hu hv
  go_enter Try.func21, Try.ntmps21
  go_wp2_with fail
  refine (G.out _).mono ?_
  rintro e wa ⟨rfl, h1⟩
  have k1 := keepcell h1 (pastcell (x := .cells #[.int .i64 r2, .int .i64 m2] 28) (newcell0 (w := w) (x := .int .i64 r1) (y := .int .i64 m1) (T := 28)))
  have k3 : wa.cell? ⟨w.heap.size + 1, 0, none⟩ = some (.int .i64 r2) := keepcell h1 (by rw [World.cell?_alloc_at _ _ _ _ (by simp)]; rfl)
  have hB : Below w.heap.size w wa := (((Below.refl _ _).alloc (Nat.le_refl _) _).alloc (by simp) _).trans (h1.mono (by simp; omega))
  have k1' := fun d os => cell_regrown k1 d os
  have k3' := fun d os => cell_regrown k3 d os
  clear k1 k3 h1
  go_wp2_with fail
  refine wp_region_quiet_below (by kernel_rfl) (by kernel_rfl) ?_
  repeat (go_big_quiet_step ((go_at_call 30; first | (with_reducible exact Calls.regrown_of (U.out _)) | (with_reducible exact Calls.regrown_of (V.out _)))))
  refine wpQuiet_nil ?_
  intro _ hw'
  obtain ⟨⟨dq, osq⟩, hw''⟩ := hw'
  subst hw''
  go_wp2
  go_ret
  exact ⟨rfl, end_below' hB _ _⟩

theorem LCM_no (m1 m2 g n : Int) (w : World) (p1 : 1 ≤ m1) (p2 : m1 ≤ 4611686018427387904) (q1 : 1 ≤ m2) (q2 : m2 ≤ 4611686018427387904) (hg : ((Int.gcd m1 m2 : Nat) : Int) = g) (g1 : 1 ≤ g) (hn : m2 / g = n) (n1 : 1 ≤ n) (big : 4611686018427387904 < m1 * n) :
    Calls Try.prog 22 #[.int .i64 m1, .int .i64 m2] w fun e w' => e = .returned (.tuple #[.int .i64 0, .bool false]) ∧ Below w.heap.size w w' := by
  have G := Lib.hid (fun w => drawn_below (refgcd_pos m1 m2 g w (by omega) (by omega) (by omega) (by omega) hg))
  obtain ⟨q, hq⟩ : ∃ q, 4611686018427387904 / n = q := ⟨_, rfl⟩
  have hlt : q < m1 := by
    rw [← hq]
    exact Int.ediv_lt_of_lt_mul (by omega) big
  clear hg big
  go_enter Try.func22, Try.ntmps22
  go_wp2_with fail
  refine (G.out _).mono ?_
  rintro e wa ⟨rfl, h1⟩
  go_wp2_with (go_at_call 36; refine (limit_any _).mono ?_; rintro e w' ⟨rfl, rfl⟩)
  go_ret2
  exact ⟨rfl, h1⟩

theorem LCM_yes (m1 m2 g n L : Int) (w : World) (p1 : 1 ≤ m1) (p2 : m1 ≤ 4611686018427387904) (q1 : 1 ≤ m2) (q2 : m2 ≤ 4611686018427387904) (hg : ((Int.gcd m1 m2 : Nat) : Int) = g) (g1 : 1 ≤ g) (hn : m2 / g = n) (n1 : 1 ≤ n) (hL : m1 * n = L) (l0 : 0 ≤ L) (big : L ≤ 4611686018427387904) :
    Calls Try.prog 22 #[.int .i64 m1, .int .i64 m2] w fun e w' => e = .returned (.tuple #[.int .i64 L, .bool true]) ∧ Below w.heap.size w w' := by
  have G := Lib.hid (fun w => drawn_below (refgcd_pos m1 m2 g w (by omega) (by omega) (by omega) (by omega) hg))
  obtain ⟨q, hq⟩ : ∃ q, 4611686018427387904 / n = q := ⟨_, rfl⟩
  have hge : m1 ≤ q := by
    rw [← hq]
    exact Int.le_ediv_of_mul_le (by omega) (by omega)
  have x1 : wrap64 (m1 * n) = L := by rw [hL]; exact IntWalk.wrap64_in _ (by omega)
  clear hg hL
  go_enter Try.func22, Try.ntmps22
  go_wp2_with fail
  refine (G.out _).mono ?_
  rintro e wa ⟨rfl, h1⟩
  go_wp2_with (go_at_call 36; refine (limit_any _).mono ?_; rintro e w' ⟨rfl, rfl⟩)
  go_ret2
  exact ⟨by rw [x1]; rfl, h1⟩
end Go.Proofs.Ytgicdfhhaefibaa
