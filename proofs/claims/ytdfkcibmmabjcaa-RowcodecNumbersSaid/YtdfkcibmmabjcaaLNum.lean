/- Law RowcodecNumbers: for every input the call returns true, and its arguments read afterwards as before. -/
import Derived.Test.YtdfkcibmmabjcaaOpn
import Derived.Test.YtdfkcibmmabjcaaOrd
namespace Go.Proofs.Ytdfkcibmmabjcaa
open Go.ChangeShapes Go.WideShapes Go.ChangeAt Go.RowKit Go.ChangeMaps

theorem rowcodecNumbers_long (a b : Int) (s : ByteArray) (w : World) (h : 100 < s.size) (ls : s.size ≤ 140737488351232) :
    Calls Try.prog 10 #[.int .i64 a, .int .i64 b, .string s] w fun e w' => e = .returned (.bool true) ∧ Below w.heap.size w w' := by
  go_enter Try.func10, Try.ntmps10
  go_wp2_with fail
  refine (awake_any _).mono ?_
  rintro e w1 ⟨rfl, b1⟩
  go_wp2_with fail
  refine (awake_any _).mono ?_
  rintro e w2 ⟨rfl, b2⟩
  go_wp2
  go_ret
  exact ⟨rfl, b1.trans (b2.mono b1.size)⟩

theorem rowcodecNumbers_ok (a b : Int) (s : ByteArray) (w : World) (h : s.size = 8) (la : -9223372036854775808 ≤ a) (ga : a ≤ 9223372036854775807) (lb : -9223372036854775808 ≤ b) (gb : b ≤ 9223372036854775807) :
    Calls Try.prog 10 #[.int .i64 a, .int .i64 b, .string s] w fun e w' => e = .returned (.bool true) ∧ Below w.heap.size w w' := by
  obtain ⟨v0, v1⟩ := val8_all s.data.toList (by simpa using h)
  obtain ⟨X, hX⟩ : ∃ X : ByteArray, ⟨(num8 (a + 9223372036854775808)).toArray⟩ = X := ⟨_, rfl⟩
  obtain ⟨Y, hY⟩ : ∃ Y : ByteArray, ⟨(num8 (b + 9223372036854775808)).toArray⟩ = Y := ⟨_, rfl⟩
  have K1 := Lib.hid (fun w => Number_any a w la ga)
  have K2 := Lib.hid (fun w => Number_any b w lb gb)
  have K3 := Lib.hid (fun w => ParseNumber_ok X w (by rw [← hX]; rfl))
  have K4 := Lib.hid (fun w => ParseNumber_ok s w h)
  have K5 := Lib.hid (fun w => refNumber_any a w la ga)
  have K6 := Lib.hid (fun w => refNumber_any (val8 s.data.toList - 9223372036854775808) w (by omega) (by omega))
  rw [show val8 X.data.toList - 9223372036854775808 = a by rw [← hX]; show val8 (num8 _) - _ = _; rw [val8_num8 _ (by omega) (by omega)]; omega] at K3
  rw [show val8 s.data.toList - 9223372036854775808 + 9223372036854775808 = val8 s.data.toList by omega, num8_val8 s.data.toList (by simpa using h), show (⟨s.data.toList.toArray⟩ : ByteArray) = s by simp] at K6
  rw [hX] at K1 K5
  rw [hY] at K2
  have hl := less_num8 (a + 9223372036854775808) (b + 9223372036854775808) (by omega) (by omega) (by omega) (by omega)
  have hl : Op.bytesLess X.toList Y.toList = decide (a < b) := by
    rw [ByteArray.toList_eq, ByteArray.toList_eq, ← hX, ← hY]; refine hl.trans ?_; simp
  clear hX hY
  obtain ⟨m, hm⟩ : ∃ m, val8 s.data.toList - 9223372036854775808 = m := ⟨_, rfl⟩
  rw [hm] at K4 K6
  have h8 : (s.size : Int) = 8 := by omega
  clear hm v0 v1 h
  cases hc : decide (a < b) <;> rw [hc] at hl
  all_goals
    go_enter Try.func10, Try.ntmps10
    go_wp2_with fail
    refine (awake_any _).mono ?_
    rintro e w1 ⟨rfl, b1⟩
    go_wp2_with fail
    refine (K1.out _).mono ?_
    rintro e w2 ⟨rfl, b2⟩
    have c2 := b1.trans (b2.mono b1.size)
    clear b1 b2
    go_wp2_with fail
    refine (K2.out _).mono ?_
    rintro e w3 ⟨rfl, b3⟩
    have c3 := c2.trans (b3.mono c2.size)
    clear c2 b3
    go_wp2_with fail
    refine (K3.out _).mono ?_
    rintro e w4 ⟨rfl, b4⟩
    have c4 := c3.trans (b4.mono c3.size)
    clear c3 b4
    go_wp2_with fail
    refine (K4.out _).mono ?_
    rintro e w5 ⟨rfl, b5⟩
    have c5 := c4.trans (b5.mono c4.size)
    clear c4 b5
    go_wp2_with fail
    refine (K5.out _).mono ?_
    rintro e w6 ⟨rfl, b6⟩
    have c6 := c5.trans (b6.mono c5.size)
    clear c5 b6
    go_wp2_with fail
    refine (K6.out _).mono ?_
    rintro e w7 ⟨rfl, b7⟩
    have c7 := c6.trans (b7.mono c6.size)
    clear c6 b7
    go_wp2
    go_ret
    exact ⟨rfl, c7⟩

theorem rowcodecNumbers_bad (a b : Int) (s : ByteArray) (w : World) (h0 : s.size ≤ 100) (h : s.size ≠ 8) (la : -9223372036854775808 ≤ a) (ga : a ≤ 9223372036854775807) (lb : -9223372036854775808 ≤ b) (gb : b ≤ 9223372036854775807) :
    Calls Try.prog 10 #[.int .i64 a, .int .i64 b, .string s] w fun e w' => e = .returned (.bool true) ∧ Below w.heap.size w w' := by
  obtain ⟨X, hX⟩ : ∃ X : ByteArray, ⟨(num8 (a + 9223372036854775808)).toArray⟩ = X := ⟨_, rfl⟩
  obtain ⟨Y, hY⟩ : ∃ Y : ByteArray, ⟨(num8 (b + 9223372036854775808)).toArray⟩ = Y := ⟨_, rfl⟩
  have K1 := Lib.hid (fun w => Number_any a w la ga)
  have K2 := Lib.hid (fun w => Number_any b w lb gb)
  have K3 := Lib.hid (fun w => ParseNumber_ok X w (by rw [← hX]; rfl))
  have K4 := Lib.hid (fun w => ParseNumber_bad s w h (by omega))
  have K5 := Lib.hid (fun w => refNumber_any a w la ga)
  rw [show val8 X.data.toList - 9223372036854775808 = a by rw [← hX]; show val8 (num8 _) - _ = _; rw [val8_num8 _ (by omega) (by omega)]; omega] at K3
  rw [hX] at K1 K5
  rw [hY] at K2
  have hl := less_num8 (a + 9223372036854775808) (b + 9223372036854775808) (by omega) (by omega) (by omega) (by omega)
  have hl : Op.bytesLess X.toList Y.toList = decide (a < b) := by
    rw [ByteArray.toList_eq, ByteArray.toList_eq, ← hX, ← hY]; refine hl.trans ?_; simp
  clear hX hY
  have h8 : ((s.size : Int) == 8) = false := by simp; omega
  clear h
  cases hc : decide (a < b) <;> rw [hc] at hl
  all_goals
    go_enter Try.func10, Try.ntmps10
    go_wp2_with fail
    refine (awake_any _).mono ?_
    rintro e w1 ⟨rfl, b1⟩
    go_wp2_with fail
    refine (K1.out _).mono ?_
    rintro e w2 ⟨rfl, b2⟩
    have c2 := b1.trans (b2.mono b1.size)
    clear b1 b2
    go_wp2_with fail
    refine (K2.out _).mono ?_
    rintro e w3 ⟨rfl, b3⟩
    have c3 := c2.trans (b3.mono c2.size)
    clear c2 b3
    go_wp2_with fail
    refine (K3.out _).mono ?_
    rintro e w4 ⟨rfl, b4⟩
    have c4 := c3.trans (b4.mono c3.size)
    clear c3 b4
    go_wp2_with fail
    refine (K4.out _).mono ?_
    rintro e w5 ⟨rfl, rfl⟩
    go_wp2_with fail
    refine (K5.out _).mono ?_
    rintro e w6 ⟨rfl, b6⟩
    have c6 := c4.trans (b6.mono c4.size)
    clear c4 b6
    go_wp2
    go_ret
    exact ⟨rfl, c6⟩

theorem rowcodecNumbers_walk (a b : Int) (s : ByteArray) (w : World) (la : -9223372036854775808 ≤ a) (ga : a ≤ 9223372036854775807) (lb : -9223372036854775808 ≤ b) (gb : b ≤ 9223372036854775807) (ls : s.size ≤ 140737488351232) :
    Calls Try.prog 10 #[.int .i64 a, .int .i64 b, .string s] w fun e w' => e = .returned (.bool true) ∧ Below w.heap.size w w' := by
  by_cases h : 100 < s.size
  · exact rowcodecNumbers_long a b s w h ls
  · by_cases h8 : s.size = 8
    · exact rowcodecNumbers_ok a b s w h8 la ga lb gb
    · exact rowcodecNumbers_bad a b s w (by omega) h8 la ga lb gb

set_option maxRecDepth 100000 in
theorem rowcodecNumbers_lifted (os : Os) (started : os.Started) (H : Type) (enc : TypeId × Value → H) :
    ReturnsInHanded {} Try.checked os 10 .any (Rows.rowcodecNumbersSpec.pre6 enc Try.prog Try.f10 Rows.rowcodecNumbersRow.domain false) (Rows.rowcodecNumbersSpec.post enc Try.prog Try.f10 false true false false) := by
  refine law_lifted (C := Try.checked) (B := 4) Try.own started (by kernel_rfl) Try.func10
    (ChangeSpec.witness6 (enc := enc) (C := Try.checked) false ⟨#[], #[.int .i64 0, .int .i64 0, .string ⟨#[]⟩], []⟩ 8 (by kernel_rfl) (by kernel_rfl) (by kernel_rfl) (by kernel_rfl))
    Try.laidOut (by kernel_rfl) rfl rfl rfl Try.underlying4 (fun ds h => match ds, h with | [_, _, _], _ => rfl) ?_
  intro W base args ds ps hval hA hlt hsz
  rw [Try.params10] at hA hval hsz
  obtain ⟨v0, vs0, d0, ds0, p0, q0, hargs, rfl, rfl, h0, r0⟩ := trodAll_cons hA
  obtain ⟨v1, vs1, d1, ds1, p1, q1, rfl, rfl, rfl, h1, r1⟩ := trodAll_cons r0
  obtain ⟨v2, vs2, d2, ds2, p2, q2, rfl, rfl, rfl, h2, r2⟩ := trodAll_cons r1
  obtain ⟨rfl, rfl, rfl⟩ := trodAll_nil r2
  obtain rfl : args = #[v0, v1, v2] := by cases args; simp_all
  obtain ⟨a0, rfl, rfl, rfl, w0⟩ := open_int Try.underlying2 (hval 0 2 v0 rfl rfl) h0
  obtain ⟨l0, g0⟩ := i64_bd w0
  obtain ⟨a1, rfl, rfl, rfl, w1⟩ := open_int Try.underlying2 (hval 1 2 v1 rfl rfl) h1
  obtain ⟨l1, g1⟩ := i64_bd w1
  obtain ⟨s2, rfl, rfl, rfl, w2⟩ := open_string Try.underlying9 (hval 2 9 v2 rfl rfl) h2
  have l2 : s2.size ≤ 140737488351232 := by have := sized_string hsz (j := 2) (t := 9) rfl rfl; simpa [reachBytes] using this
  clear hlt hsz
  exact rowcodecNumbers_walk a0 a1 s2 W l0 g0 l1 g1 l2

theorem rowcodecNumbers_over : Rows.rowcodecNumbersRow.holds Try.pinned (OpenSpec.ofChange Rows.rowcodecNumbersSpec) :=
  OpenClaim.holds_of_wide 10 Try.f10 rfl rfl rfl rfl rfl rfl rfl ⟨rfl, rfl, rfl, rfl, rfl⟩ rfl rfl rfl rfl rfl (by kernel_rfl) Try.func10 (by kernel_rfl)
    (of_decide_eq_true (by kernel_rfl)) (by unfold Func.isWrapper; first | (rw [if_pos (by decide +kernel)]; kernel_rfl) | (rw [if_neg (by decide +kernel)]; exact ⟨rfl, rfl⟩))
    (fun os started H enc _ => rowcodecNumbers_lifted os started H enc)

theorem rowcodecNumbers_proved : Rows.RowcodecNumbersSaid := rowcodecNumbers_over
end Go.Proofs.Ytdfkcibmmabjcaa
