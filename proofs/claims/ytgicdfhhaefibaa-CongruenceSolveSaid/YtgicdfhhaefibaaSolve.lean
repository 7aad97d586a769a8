/- Law CongruenceSolve: for every input the call returns true, and its arguments read afterwards as before. -/
import Derived.Test.YtgicdfhhaefibaaSol
namespace Go.Proofs.Ytgicdfhhaefibaa
open Go.Sort Go.ChangeShapes Go.WideShapes Go.ChangeAt Go.RowKit

theorem absl_pos (a : Int) (h : 0 ≤ a) : absl a = a := by unfold absl; rw [if_neg (by omega), if_neg (by omega)]

theorem refgcd_pos (a b g : Int) (w : World) (a0 : 0 ≤ a) (a1 : a ≤ 9223372036854775807) (b0 : 0 ≤ b) (b1 : b ≤ 9223372036854775807) (hg : ((Int.gcd a b : Nat) : Int) = g) :
    Calls Try.prog 29 #[.int .i64 a, .int .i64 b] w fun e w' => e = .returned (.int .i64 g) ∧ ∃ n, w' = w.drewN n := by
  have := refgcd_any a b w (by omega) a1 (by omega) b1
  rw [absl_pos a a0, absl_pos b b0, hg] at this
  exact this

theorem Solvable_is (a b m a1 g v : Int) (w : World) (m1 : 1 ≤ m) (m2 : m ≤ 4611686018427387904) (ha : a % m = a1) (a0 : 0 ≤ a1) (al : a1 < m) (hg : ((Int.gcd a1 m : Nat) : Int) = g) (g1 : 1 ≤ g) (g2 : g ≤ m) (hv : b % g = v) :
    Calls Try.prog 28 #[.int .i64 a, .int .i64 b, .int .i64 m] w fun e w' => e = .returned (.bool (v == 0)) ∧ ∃ n, w' = w.drewN n := by
  have M1 := Lib.hid (fun w => refmod_is a m a1 w m1 (by omega) ha)
  have M2 := Lib.hid (fun w => refmod_is b g v w g1 (by omega) hv)
  have G := Lib.hid (fun w => refgcd_pos a1 m g w a0 (by omega) (by omega) (by omega) hg)
  clear ha hv hg
  go_enter Try.func28, Try.ntmps28
  go_wp2_with (first | (go_at_call 30; first | ((with_reducible refine (M1.out _).mono ?_); rintro e w' ⟨rfl, rfl⟩) | ((with_reducible refine (M2.out _).mono ?_); rintro e w' ⟨rfl, rfl⟩)) | (go_at_call 29; refine (G.out _).mono ?_; rintro e w' ⟨rfl, kk, rfl⟩))
  go_ret
  exact ⟨rfl, _, rfl⟩

set_option maxHeartbeats 1000000 in
theorem solve_bad (a b m : Int) (w : World) (hm : m < 1 ∨ 4611686018427387904 < m) :
    Calls Try.prog 10 #[.int .i64 a, .int .i64 b, .int .i64 m] w fun e w' => e = .returned (.bool true) ∧ Below w.heap.size w w' := by
  have S := Lib.hid (fun w => Solve_bad a b m w hm)
  rcases (show m < 1 ∨ (1 ≤ m ∧ 4611686018427387904 < m) by omega) with h1 | ⟨h1, h2⟩
  all_goals
    clear hm
    go_enter Try.func10, Try.ntmps10
    go_wp2_with fail
    refine (awake_any _).mono ?_
    rintro e wa ⟨rfl, hA⟩
    go_wp2_with fail
    refine (S.out _).mono ?_
    rintro e wb ⟨rfl, h2⟩
    have hB := more_below hA h2
    go_wp2
    go_ret
    exact ⟨rfl, hB.alloc hB.size _⟩

set_option maxHeartbeats 1000000 in
theorem solve_none (a b m a1 b1 g v : Int) (w : World) (m1 : 1 ≤ m) (m2 : m ≤ 4611686018427387904) (ha : a % m = a1) (hb : b % m = b1) (hg : ((Int.gcd a1 m : Nat) : Int) = g) (g1 : 1 ≤ g) (g2 : g ≤ m) (a0 : 0 ≤ a1) (al : a1 < m) (b0 : 0 ≤ b1) (hd : (b1 % g != 0) = true) (hv : b % g = v) (hv0 : (v == 0) = false) :
    Calls Try.prog 10 #[.int .i64 a, .int .i64 b, .int .i64 m] w fun e w' => e = .returned (.bool true) ∧ Below w.heap.size w w' := by
  have S := Lib.hid (fun w => Solve_none a b m a1 b1 g w m1 m2 ha hb hg g1 a0 al b0 hd)
  have Q := Lib.hid (fun w => hv0 ▸ Solvable_is a b m a1 g v w m1 m2 ha a0 al hg g1 g2 hv)
  clear ha hb hg hd hv hv0
  go_enter Try.func10, Try.ntmps10
  go_wp2_with fail
  refine (awake_any _).mono ?_
  rintro e wa ⟨rfl, hA⟩
  go_wp2_with fail
  refine (S.out _).mono ?_
  rintro e wb ⟨rfl, h2⟩
  have hB := more_below hA h2
  go_wp2_with fail
  refine (Q.out _).mono ?_
  rintro e wc ⟨rfl, kk, rfl⟩
  go_wp2
  go_ret
  exact ⟨rfl, below_drewN (hB.alloc hB.size _) _⟩

set_option maxHeartbeats 4000000 in
theorem solve_some (a b m a1 b1 g n α β : Int) (w : World) (m1 : 1 ≤ m) (m2 : m ≤ 4611686018427387904) (ha : a % m = a1) (hb : b % m = b1) (hg : ((Int.gcd a1 m : Nat) : Int) = g) (g1 : 1 ≤ g) (g2 : g ≤ m) (a0 : 0 ≤ a1) (al : a1 < m) (b0 : 0 ≤ b1) (bl : b1 < m) (hd : b1 % g = 0)
    (hn : m / g = n) (hα : a1 / g = α) (hβ : b1 / g = β) (n1 : 1 ≤ n) (n2 : n ≤ m) (hco : Int.gcd α n = 1) (hv : b % g = 0) (d1 : g ∣ a1) (d2 : g ∣ m) (d3 : g ∣ b1) :
    Calls Try.prog 10 #[.int .i64 a, .int .i64 b, .int .i64 m] w fun e w' => e = .returned (.bool true) ∧ Below w.heap.size w w' := by
  have S := Lib.hid (fun w => Solve_some a b m a1 b1 g n α β w m1 m2 ha hb hg g1 a0 al b0 bl (by simp [hd]) hn hα hβ n1 n2 hco)
  have Q := Lib.hid (fun w => Solvable_is a b m a1 g 0 w m1 m2 ha a0 al hg g1 g2 hv)
  have fin := Lib.hid (fun (i : Int) (hi : α * i % n = 1 % n) => show (a * (β % n * i % n) % m == b % m) = true from by
    have := solve_math a b m g i g1 (by rw [ha]; exact d1) d2 (by rw [hb]; exact d3) (by rw [ha, hα, hn]; exact hi)
    rw [hb, hβ, hn] at this
    have h2 := Int.emod_emod_of_dvd (a * (β % n * i % n) - b) (Int.dvd_refl m)
    simp only [beq_iff_eq]
    exact Int.emod_eq_emod_iff_emod_sub_eq_zero.2 this)
  have G := Lib.hid (fun w => refgcd_pos a1 m g w a0 (by omega) (by omega) (by omega) hg)
  have M1 := Lib.hid (fun w => refmod_is a m a1 w m1 (by omega) ha)
  have x3 : IntKind.i64.wrap (m.tdiv g) = n := (IntWalk.i64_quo _ _ ⟨by omega, by omega, g1⟩).trans hn
  clear ha hb hg hd hn hα hβ hco hv d1 d2 d3
  go_enter Try.func10, Try.ntmps10
  go_wp2_with fail
  refine (awake_any _).mono ?_
  rintro e wa ⟨rfl, hA⟩
  go_wp2_with fail
  refine (S.out _).mono ?_
  rintro e wb ⟨x, i, rfl, hx, hi, h2⟩
  have hB := more_below hA h2
  have x0 : 0 ≤ x := by rw [hx]; exact Int.emod_nonneg _ (by omega)
  have xl : x < n := by rw [hx]; exact Int.emod_lt_of_pos _ (by omega)
  have V := Lib.hid (fun w => refvalid_is x n true w (by simp [vld]; omega))
  have F := Lib.hid (fun w => show Calls Try.prog 31 #[.int .i64 a, .int .i64 b, .int .i64 m, .int .i64 x] w fun e w' => e = .returned (.bool true) ∧ w = w' from by
    have := Solves_any a b m x w m1 m2
    rw [hx, fin.out i hi, ← hx] at this
    exact this)
  clear hx hi h2 hA
  go_wp2_with fail
  refine (Q.out _).mono ?_
  rintro e wc ⟨rfl, kk, rfl⟩
  have c0 := newcell0 (w := wb) (x := .int .i64 x) (y := .int .i64 n) (T := 24)
  have c1 := newcell1 (w := wb) (x := .int .i64 x) (y := .int .i64 n) (T := 24)
  have hC : Below w.heap.size w ((wb.alloc (.cells #[.int .i64 x, .int .i64 n] 24)).drewN kk) := below_drewN (hB.alloc hB.size _) _
  have c0' : ((wb.alloc (.cells #[.int .i64 x, .int .i64 n] 24)).drewN kk).cell? ⟨wb.heap.size, 0, none⟩ = some (.int .i64 x) := c0
  have c1' : ((wb.alloc (.cells #[.int .i64 x, .int .i64 n] 24)).drewN kk).cell? ⟨wb.heap.size, 1, none⟩ = some (.int .i64 n) := c1
  clear c0 c1 hB
  generalize (wb.alloc (.cells #[.int .i64 x, .int .i64 n] 24)).drewN kk = wd at *
  have b0' := fun d os => cell_regrown c0' d os
  have b1' := fun d os => cell_regrown c1' d os
  go_wp2_with fail
  refine wp_region_quiet_below (by kernel_rfl) (by kernel_rfl) ?_
  repeat (go_big_quiet_step ((first | (go_at_call 15; exact Calls.regrown_of (of_any _ _ _)) | (go_at_call 20; exact Calls.regrown_of (V.out _)) | (go_at_call 30; exact Calls.regrown_of (pure_below (M1.out _))) | (go_at_call 29; exact Calls.regrown_of (drawn_below (G.out _))) | (go_at_call 31; exact Calls.regrown_of (pure_below (F.out _))))))
  refine wpQuiet_nil ?_
  intro _ hw'
  obtain ⟨⟨dq, osq⟩, hw''⟩ := hw'
  subst hw''
  go_wp2
  go_ret
  exact ⟨rfl, end_below' hC _ _⟩

theorem congruenceSolve_walk (a b m : Int) (w : World) (_ : -9223372036854775808 ≤ a) (_ : a ≤ 9223372036854775807) (_ : -9223372036854775808 ≤ b) (_ : b ≤ 9223372036854775807) (_ : -9223372036854775808 ≤ m) (_ : m ≤ 9223372036854775807) :
    Calls Try.prog 10 #[.int .i64 a, .int .i64 b, .int .i64 m] w fun e w' => e = .returned (.bool true) ∧ Below w.heap.size w w' := by
  by_cases hm : m < 1 ∨ 4611686018427387904 < m
  · exact solve_bad a b m w hm
  have m1 : 1 ≤ m := by omega
  have m2 : m ≤ 4611686018427387904 := by omega
  have a0 := Int.emod_nonneg a (show m ≠ 0 by omega)
  have al := Int.emod_lt_of_pos a (show 0 < m by omega)
  have b0 := Int.emod_nonneg b (show m ≠ 0 by omega)
  have bl := Int.emod_lt_of_pos b (show 0 < m by omega)
  have gp : 0 < Int.gcd (a % m) m := by
    have : Int.gcd (a % m) m ≠ 0 := by rw [ne_eq, Int.gcd_eq_zero_iff]; omega
    omega
  obtain ⟨g, hg⟩ : ∃ g : Int, ((Int.gcd (a % m) m : Nat) : Int) = g := ⟨_, rfl⟩
  have g1 : 1 ≤ g := by omega
  have d1 : g ∣ a % m := hg ▸ Int.gcd_dvd_left (a % m) m
  have d2 : g ∣ m := hg ▸ Int.gcd_dvd_right (a % m) m
  have g2 : g ≤ m := Int.le_of_dvd (by omega) d2
  have hbg : b % m % g = b % g := Int.emod_emod_of_dvd b d2
  by_cases hd : b % m % g = 0
  · have d3 : g ∣ b % m := Int.dvd_of_emod_eq_zero hd
    have hco : Int.gcd (a % m / g) (m / g) = 1 := by rw [← hg]; exact Int.gcd_ediv_gcd_ediv_gcd gp
    have hn : 1 ≤ m / g := by
      obtain ⟨z, hz⟩ := d2
      have hz2 : m / g = z := by rw [hz]; exact Int.mul_ediv_cancel_left _ (by omega)
      rw [hz2]
      have h0 : 0 ≤ z := by rw [← hz2]; exact Int.ediv_nonneg (by omega) (by omega)
      by_cases hz0 : z = 0
      · rw [hz0, Int.mul_zero] at hz; omega
      · omega
    have hn2 : m / g ≤ m := Int.ediv_le_self g (by omega)
    exact solve_some a b m _ _ g _ _ _ w m1 m2 rfl rfl hg g1 g2 a0 al b0 bl hd rfl rfl rfl hn hn2 hco (by rw [← hbg]; exact hd) d1 d2 d3
  · exact solve_none a b m _ _ g _ w m1 m2 rfl rfl hg g1 g2 a0 al b0 (by simpa using hd) rfl (by rw [← hbg]; simpa using hd)

set_option maxRecDepth 100000 in
theorem congruenceSolve_lifted (os : Os) (started : os.Started) (H : Type) (enc : TypeId × Value → H) :
    ReturnsInHanded {} Try.checked os 10 .any (Rows.congruenceSolveSpec.pre6 enc Try.prog Try.f10 Rows.congruenceSolveRow.domain false) (Rows.congruenceSolveSpec.post enc Try.prog Try.f10 false true false false) := by
  refine law_lifted (C := Try.checked) (B := 4) Try.own started (by kernel_rfl) Try.func10
    (ChangeSpec.witness6 (enc := enc) (C := Try.checked) false ⟨#[], #[.int .i64 0, .int .i64 0, .int .i64 0], []⟩ 8 (by kernel_rfl) (by kernel_rfl) (by kernel_rfl) (by kernel_rfl))
    Try.laidOut (by kernel_rfl) rfl rfl rfl Try.underlying4 (fun ds h => match ds, h with | [_, _, _], _ => rfl) ?_
  intro W base args ds ps hval hA hlt hsz
  rw [Try.params10] at hA hval
  clear hlt hsz
  obtain ⟨v0, vs0, d0, ds0, p0, q0, hargs, rfl, rfl, h0, r0⟩ := trodAll_cons hA
  obtain ⟨v1, vs1, d1, ds1, p1, q1, rfl, rfl, rfl, h1, r1⟩ := trodAll_cons r0
  obtain ⟨v2, vs2, d2, ds2, p2, q2, rfl, rfl, rfl, h2, r2⟩ := trodAll_cons r1
  obtain ⟨rfl, rfl, rfl⟩ := trodAll_nil r2
  obtain rfl : args = #[v0, v1, v2] := by cases args; simp_all
  obtain ⟨a0, rfl, rfl, rfl, w0⟩ := open_int Try.underlying2 (hval 0 2 v0 rfl rfl) h0
  obtain ⟨l0, g0⟩ := i64_bd w0
  obtain ⟨a1, rfl, rfl, rfl, w1⟩ := open_int Try.underlying2 (hval 1 2 v1 rfl rfl) h1
  obtain ⟨l1, g1⟩ := i64_bd w1
  obtain ⟨a2, rfl, rfl, rfl, w2⟩ := open_int Try.underlying2 (hval 2 2 v2 rfl rfl) h2
  obtain ⟨l2, g2⟩ := i64_bd w2
  exact congruenceSolve_walk a0 a1 a2 W l0 g0 l1 g1 l2 g2

theorem congruenceSolve_over : Rows.congruenceSolveRow.holds Try.pinned (OpenSpec.ofChange Rows.congruenceSolveSpec) :=
  OpenClaim.holds_of_wide 10 Try.f10 rfl rfl rfl rfl rfl rfl rfl ⟨rfl, rfl, rfl, rfl, rfl⟩ rfl rfl rfl rfl rfl (by kernel_rfl) Try.func10 (by kernel_rfl)
    (of_decide_eq_true (by kernel_rfl)) (by unfold Func.isWrapper; first | (rw [if_pos (by decide +kernel)]; kernel_rfl) | (rw [if_neg (by decide +kernel)]; exact ⟨rfl, rfl⟩))
    (fun os started H enc _ => congruenceSolve_lifted os started H enc)

theorem congruenceSolve_proved : Rows.CongruenceSolveSaid := congruenceSolve_over
end Go.Proofs.Ytgicdfhhaefibaa
