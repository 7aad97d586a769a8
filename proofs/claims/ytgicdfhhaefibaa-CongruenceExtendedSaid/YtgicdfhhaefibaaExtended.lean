/- Law CongruenceExtended: for every input the call returns true, and its arguments read afterwards as before. -/
import Derived.Test.YtgicdfhhaefibaaOpn
namespace Go.Proofs.Ytgicdfhhaefibaa
open Go.Sort Go.ChangeShapes Go.WideShapes Go.ChangeAt Go.RowKit

theorem Ext_zero0 (w : World) : Calls Try.prog 32 #[.int .i64 0, .int .i64 0] w fun e w' => e = .returned (.tuple #[.int .i64 0, .int .i64 0, .int .i64 0]) ∧ w = w' := by
  have H := Lib.hid (show Calls Try.prog 43 #[.int .i64 0] w fun e w' => e = .returned (.int .i64 0) ∧ w = w' from absolute_any 0 w (by omega) (by omega))
  go_enter Try.func32, Try.ntmps32
  go_wp2_with (go_at_call 43; refine H.out.mono ?_; rintro e w' ⟨rfl, rfl⟩)
  go_ret3
  exact ⟨rfl, rfl⟩

theorem extended_zero (w : World) : Calls Try.prog 11 #[.int .i64 0, .int .i64 0] w fun e w' => e = .returned (.bool true) ∧ Below w.heap.size w w' := by
  have N1 := Lib.hid (fun w => show Calls Try.prog 29 #[.int .i64 0, .int .i64 0] w fun e w' => e = .returned (.int .i64 0) ∧ ∃ n, w' = w.drewN n from refgcd_any 0 0 w (by omega) (by omega) (by omega) (by omega))
  have N2 := Lib.hid (fun w => show Calls Try.prog 33 #[.int .i64 0, .int .i64 0] w fun e w' => e = .returned (.int .i64 0) ∧ ∃ n, w' = w.drewN n from GCD_any 0 0 w (by omega) (by omega) (by omega) (by omega))
  go_enter Try.func11, Try.ntmps11
  go_wp2_with (first | (go_at_call 12; refine (awake_any _).mono ?_; rintro e wa ⟨rfl, h1⟩) | (go_at_call 32; refine (Ext_zero0 _).mono ?_; rintro e w' ⟨rfl, rfl⟩) | (go_at_call 29; refine (N1.out _).mono ?_; rintro e w' ⟨rfl, n1, rfl⟩) | (go_at_call 33; refine (N2.out _).mono ?_; rintro e w' ⟨rfl, n2, rfl⟩))
  go_ret
  exact ⟨rfl, by repeat (first | exact h1 | refine below_drewN ?_ _)⟩

theorem refabs_is (n v : Int) (w : World) (h1 : -9223372036854775808 ≤ n) (h2 : n ≤ 9223372036854775807) (h : absl n = v) :
    Calls Try.prog 34 #[.int .i64 n] w fun e w' => e = .returned (.int .i64 v) ∧ w = w' := by
  subst h; exact refabs_any n w h1 h2

theorem absl_sgn (a x : Int) (h1 : -9223372036854775807 ≤ x) : absl x = if sgn a x < 0 then - sgn a x else sgn a x := by
  unfold absl sgn; rw [if_neg (by omega)]; by_cases h2 : x < 0 <;> by_cases h3 : a < 0 <;> simp only [h2, h3, if_true, if_false] <;> (first | omega | (split <;> omega))

theorem ext_final (a b g x y : Int)
    (h : g = absl a * sgn a x + absl b * sgn b y) (g0 : 0 ≤ g) (g1 : g ≤ 9223372036854775807) :
    wrap64 (wrap64 ((if a = -9223372036854775808 then -9223372036854775807 else a) * x) + wrap64 ((if b = -9223372036854775808 then -9223372036854775807 else b) * y)) = g := by
  have e : ∀ c z : Int, absl c * sgn c z = (if c = -9223372036854775808 then -9223372036854775807 else c) * z := by
    intro c z; unfold absl sgn
    by_cases h : c = -9223372036854775808
    · rw [if_pos h, if_pos h, if_pos (by omega)]; omega
    · rw [if_neg h, if_neg h]; split <;> grind
  rw [← e, ← e]
  generalize absl a * sgn a x = s at *
  generalize absl b * sgn b y = t at *
  unfold wrap64
  omega

theorem wmin : wrap64 (-9223372036854775808 + 1) = -9223372036854775807 := by have := IntWalk.wrap64_in (-9223372036854775808 + 1) (by omega); omega
def Fin (a b g x y : Int) : Prop := wrap64 (wrap64 ((if a = -9223372036854775808 then -9223372036854775807 else a) * x) + wrap64 ((if b = -9223372036854775808 then -9223372036854775807 else b) * y)) = g
theorem fin_pp {a b g x y : Int} (h : Fin a b g x y) (ca : (a == -9223372036854775808) = true) (cb : (b == -9223372036854775808) = true) : (wrap64 (wrap64 (wrap64 (a + 1) * x) + wrap64 (wrap64 (b + 1) * y)) == g) = true := by
  unfold Fin at h; simp only [beq_iff_eq] at *; rw [if_pos ca, if_pos cb] at h; subst ca; subst cb; rw [wmin]; exact h
theorem fin_pn {a b g x y : Int} (h : Fin a b g x y) (ca : (a == -9223372036854775808) = true) (cb : (b == -9223372036854775808) = false) : (wrap64 (wrap64 (wrap64 (a + 1) * x) + wrap64 (b * y)) == g) = true := by
  unfold Fin at h; simp only [beq_iff_eq, beq_eq_false_iff_ne, ne_eq] at *; rw [if_pos ca, if_neg cb] at h; subst ca; rw [wmin]; exact h
theorem fin_np {a b g x y : Int} (h : Fin a b g x y) (ca : (a == -9223372036854775808) = false) (cb : (b == -9223372036854775808) = true) : (wrap64 (wrap64 (a * x) + wrap64 (wrap64 (b + 1) * y)) == g) = true := by
  unfold Fin at h; simp only [beq_iff_eq, beq_eq_false_iff_ne, ne_eq] at *; rw [if_neg ca, if_pos cb] at h; subst cb; rw [wmin]; exact h
theorem fin_nn {a b g x y : Int} (h : Fin a b g x y) (ca : (a == -9223372036854775808) = false) (cb : (b == -9223372036854775808) = false) : (wrap64 (wrap64 (a * x) + wrap64 (b * y)) == g) = true := by
  unfold Fin at h; simp only [beq_iff_eq, beq_eq_false_iff_ne, ne_eq] at *; rw [if_neg ca, if_neg cb] at h; exact h

theorem div_bd (p g B : Int) (hg : 1 ≤ g) (h : p ≤ 1 ∨ p * g ≤ B) : p ≤ 1 ∨ p ≤ B / g := by
  rcases h with h | h
  · exact .inl h
  · right; exact Int.le_ediv_of_mul_le (by omega) h

set_option maxHeartbeats 4000000 in
theorem extended_pos (a b : Int) (w : World) (ha : -9223372036854775808 ≤ a) (ha2 : a ≤ 9223372036854775807) (hb : -9223372036854775808 ≤ b) (hb2 : b ≤ 9223372036854775807) (hz : ¬ (a = 0 ∧ b = 0)) :
    Calls Try.prog 11 #[.int .i64 a, .int .i64 b] w fun e w' => e = .returned (.bool true) ∧ Below w.heap.size w w' := by
  obtain ⟨a1, a2⟩ := absl_bd a ha ha2
  obtain ⟨b1, b2⟩ := absl_bd b hb hb2
  have hg1 : (1 : Int) ≤ (Int.gcd (absl a) (absl b) : Nat) := by
    have : Int.gcd (absl a) (absl b) ≠ 0 := by
      rw [ne_eq, Int.gcd_eq_zero_iff, absl_zero, absl_zero]; exact hz
    omega
  have H1 := Lib.hid (fun w => Ext_any a b w ha ha2 hb hb2)
  obtain ⟨g, hg⟩ : ∃ g : Int, ((Int.gcd (absl a) (absl b) : Nat) : Int) = g := ⟨_, rfl⟩
  have N1 := Lib.hid (fun w => hg ▸ refgcd_any a b w ha ha2 hb hb2)
  have N2 := Lib.hid (fun w => hg ▸ GCD_any a b w ha ha2 hb hb2)
  have hg2 : g ≤ 9223372036854775807 := by
    by_cases h : absl a = 0
    · rw [← hg, h, Int.gcd_zero_left]; omega
    · have := gcd_le_left (absl a) (absl b) (by omega); omega
  rw [hg] at hg1
  have HG := Lib.hid hg
  clear hg hz
  obtain ⟨A, hA⟩ : ∃ A, absl a = A := ⟨_, rfl⟩
  obtain ⟨B, hB⟩ : ∃ B, absl b = B := ⟨_, rfl⟩
  rw [hA] at a1 a2
  rw [hB] at b1 b2
  have HA := Lib.hid hA
  have HB := Lib.hid hB
  clear hA hB
  have gz : (g == 0) = false := by simp; omega
  go_enter Try.func11, Try.ntmps11
  go_wp2_with (first | (go_at_call 12; refine (awake_any _).mono ?_; rintro e wa ⟨rfl, h1⟩))
  refine (H1.out _).mono ?_
  rintro e w' ⟨g', x, y, rfl, hE, x1, x2, y1, y2, rfl⟩
  obtain ⟨e1, e2, p, c, p0, c0, hp, hc, hs⟩ := hE
  obtain rfl : g = g' := by rw [e1, HG.out]
  obtain ⟨X, hX⟩ : ∃ X, absl x = X := ⟨_, rfl⟩
  obtain ⟨Y, hY⟩ : ∃ Y, absl y = Y := ⟨_, rfl⟩
  have hXp : X = p := by rw [← hX, absl_sgn a x x1]; split <;> omega
  have hYc : Y = c := by rw [← hY, absl_sgn b y y1]; split <;> omega
  have k1 := div_bd p g B hg1 (by rw [HB.out] at hp; exact hp)
  have k2 := div_bd c g A hg1 (by rw [HA.out] at hc; exact hc)
  have F : Hid (Fin a b g x y) := Lib.hid (ext_final a b g x y e2 (by omega) hg2)
  have HX := Lib.hid hX
  have HY := Lib.hid hY
  rw [← hXp] at k1 p0
  rw [← hYc] at k2 c0
  clear e1 e2 hp hc hs hX hY hXp hYc
  go_wp2_with (first | (go_at_call 29; refine (N1.out _).mono ?_; rintro e w' ⟨rfl, n1, rfl⟩) | (go_at_call 33; refine (N2.out _).mono ?_; rintro e w' ⟨rfl, n2, rfl⟩) | (go_at_call 34; first | ((with_reducible refine (refabs_is x X _ (by omega) (by omega) HX.out).mono ?_); rintro e w' ⟨rfl, rfl⟩) | ((with_reducible refine (refabs_is y Y _ (by omega) (by omega) HY.out).mono ?_); rintro e w' ⟨rfl, rfl⟩) | ((with_reducible refine (refabs_is a A _ (by omega) (by omega) HA.out).mono ?_); rintro e w' ⟨rfl, rfl⟩) | ((with_reducible refine (refabs_is b B _ (by omega) (by omega) HB.out).mono ?_); rintro e w' ⟨rfl, rfl⟩)))
  all_goals go_ret
  all_goals refine ⟨ret_bool ?_, by repeat (first | exact h1 | refine below_drewN ?_ _)⟩
  all_goals first | exact fin_pp F.out ‹_› ‹_› | exact fin_pn F.out ‹_› ‹_› | exact fin_np F.out ‹_› ‹_› | exact fin_nn F.out ‹_› ‹_›

theorem congruenceExtended_walk (a b : Int) (w : World) (ha : -9223372036854775808 ≤ a) (ha2 : a ≤ 9223372036854775807) (hb : -9223372036854775808 ≤ b) (hb2 : b ≤ 9223372036854775807) :
    Calls Try.prog 11 #[.int .i64 a, .int .i64 b] w fun e w' => e = .returned (.bool true) ∧ Below w.heap.size w w' := by
  by_cases h : a = 0 ∧ b = 0
  · obtain ⟨rfl, rfl⟩ := h; exact extended_zero w
  · exact extended_pos a b w ha ha2 hb hb2 h

set_option maxRecDepth 100000 in
theorem congruenceExtended_lifted (os : Os) (started : os.Started) (H : Type) (enc : TypeId × Value → H) :
    ReturnsInHanded {} Try.checked os 11 .any (Rows.congruenceExtendedSpec.pre6 enc Try.prog Try.f11 Rows.congruenceExtendedRow.domain false) (Rows.congruenceExtendedSpec.post enc Try.prog Try.f11 false true false false) := by
  refine law_lifted (C := Try.checked) (B := 4) Try.own started (by kernel_rfl) Try.func11
    (ChangeSpec.witness6 (enc := enc) (C := Try.checked) false ⟨#[], #[.int .i64 0, .int .i64 0], []⟩ 8 (by kernel_rfl) (by kernel_rfl) (by kernel_rfl) (by kernel_rfl))
    Try.laidOut (by kernel_rfl) rfl rfl rfl Try.underlying4 (fun ds h => match ds, h with | [_, _], _ => rfl) ?_
  intro W base args ds ps hval hA hlt hsz
  rw [Try.params11] at hA hval
  clear hlt hsz
  obtain ⟨v0, vs0, d0, ds0, p0, q0, hargs, rfl, rfl, h0, r0⟩ := trodAll_cons hA
  obtain ⟨v1, vs1, d1, ds1, p1, q1, rfl, rfl, rfl, h1, r1⟩ := trodAll_cons r0
  obtain ⟨rfl, rfl, rfl⟩ := trodAll_nil r1
  obtain rfl : args = #[v0, v1] := by cases args; simp_all
  obtain ⟨a0, rfl, rfl, rfl, w0⟩ := open_int Try.underlying2 (hval 0 2 v0 rfl rfl) h0
  obtain ⟨l0, g0⟩ := i64_bd w0
  obtain ⟨a1, rfl, rfl, rfl, w1⟩ := open_int Try.underlying2 (hval 1 2 v1 rfl rfl) h1
  obtain ⟨l1, g1⟩ := i64_bd w1
  exact congruenceExtended_walk a0 a1 W l0 g0 l1 g1

theorem congruenceExtended_over : Rows.congruenceExtendedRow.holds Try.pinned (OpenSpec.ofChange Rows.congruenceExtendedSpec) :=
  OpenClaim.holds_of_wide 11 Try.f11 rfl rfl rfl rfl rfl rfl rfl ⟨rfl, rfl, rfl, rfl, rfl⟩ rfl rfl rfl rfl rfl (by kernel_rfl) Try.func11 (by kernel_rfl)
    (of_decide_eq_true (by kernel_rfl)) (by unfold Func.isWrapper; first | (rw [if_pos (by decide +kernel)]; kernel_rfl) | (rw [if_neg (by decide +kernel)]; exact ⟨rfl, rfl⟩))
    (fun os started H enc _ => congruenceExtended_lifted os started H enc)

theorem congruenceExtended_proved : Rows.CongruenceExtendedSaid := congruenceExtended_over
end Go.Proofs.Ytgicdfhhaefibaa
