/- Law CongruenceNext: for every input the call returns true, and its arguments read afterwards as before. -/
import Derived.Test.YtgicdfhhaefibaaOpn
namespace Go.Proofs.Ytgicdfhhaefibaa
open Go.Sort Go.ChangeShapes Go.WideShapes Go.ChangeAt Go.RowKit

theorem next_both (r m n : Int) (hn : -9223372036854775808 ≤ n) (hn2 : n ≤ 9223372036854775807) : ∃ (x : Int) (b : Bool), (∀ w, Calls Try.prog 23 #[.agg #[.int .i64 r, .int .i64 m], .int .i64 n] w fun e' w' => e' = .returned (.tuple #[.int .i64 x, .bool b]) ∧ Below w.heap.size w w') ∧
    (∀ w, Calls Try.prog 24 #[.agg #[.int .i64 r, .int .i64 m], .int .i64 n] w fun e' w' => e' = .returned (.tuple #[.int .i64 x, .bool b]) ∧ Below w.heap.size w w') := by
  cases hv : vld r m
  · exact ⟨0, false, fun w => Next_bad r m n w hv, fun w => refNext_bad r m n w hv⟩
  · by_cases hd : n ≤ 9223372036854775807 - stp r m n
    · exact ⟨_, true, fun w => Next_ok r m n w hn hn2 hv hd, fun w => refNext_ok r m n w hn hn2 hv hd⟩
    · exact ⟨0, false, fun w => Next_far r m n w hn hn2 hv (by omega), fun w => refNext_far r m n w hn hn2 hv (by omega)⟩

set_option maxHeartbeats 1000000 in
theorem congruenceNext_walk (r m n : Int) (w : World) (_ : -9223372036854775808 ≤ r) (_ : r ≤ 9223372036854775807) (_ : -9223372036854775808 ≤ m) (_ : m ≤ 9223372036854775807) (hn : -9223372036854775808 ≤ n) (hn2 : n ≤ 9223372036854775807) :
    Calls Try.prog 8 #[.agg #[.int .i64 r, .int .i64 m], .int .i64 n] w fun e w' => e = .returned (.bool true) ∧ Below w.heap.size w w' := by
  obtain ⟨x, b, n1, n2⟩ := next_both r m n hn hn2
  have N1 := Lib.hid n1
  have N2 := Lib.hid n2
  clear n1 n2
  go_enter Try.func8, Try.ntmps8
  go_wp2_with fail
  refine (awake_any _).mono ?_
  rintro e wa ⟨rfl, h1⟩
  have b0 := keepcell h1 newcell0
  have b1 := keepcell h1 newcell1
  have hA := box_below h1
  clear h1
  go_wp2_with fail
  refine (to_any _ _ _).mono ?_
  rintro e wb ⟨rfl, h2⟩
  replace b0 := keepcell h2 b0
  replace b1 := keepcell h2 b1
  have hB := more_below hA h2
  clear h2 hA
  go_wp2_with fail
  refine (N1.out _).mono ?_
  rintro e wc ⟨rfl, h3⟩
  replace b0 := keepcell h3 b0
  replace b1 := keepcell h3 b1
  have hC := more_below hB h3
  clear h3 hB
  go_wp2_with fail
  refine (N2.out _).mono ?_
  rintro e wd ⟨rfl, h4⟩
  have hD := more_below hC h4
  clear h4 hC
  go_wp2
  go_ret
  exact ⟨rfl, hD⟩

set_option maxRecDepth 100000 in
theorem congruenceNext_lifted (os : Os) (started : os.Started) (H : Type) (enc : TypeId × Value → H) :
    ReturnsInHanded {} Try.checked os 8 .any (Rows.congruenceNextSpec.pre6 enc Try.prog Try.f8 Rows.congruenceNextRow.domain false) (Rows.congruenceNextSpec.post enc Try.prog Try.f8 false true false false) := by
  refine law_lifted (C := Try.checked) (B := 4) Try.own started (by kernel_rfl) Try.func8
    (ChangeSpec.witness6 (enc := enc) (C := Try.checked) false ⟨#[], #[.agg #[.int .i64 0, .int .i64 0], .int .i64 0], []⟩ 8 (by kernel_rfl) (by kernel_rfl) (by kernel_rfl) (by kernel_rfl))
    Try.laidOut (by kernel_rfl) rfl rfl rfl Try.underlying4 (fun ds h => match ds, h with | [_, _], _ => rfl) ?_
  intro W base args ds ps hval hA hlt hsz
  rw [Try.params8] at hA hval
  clear hlt hsz
  obtain ⟨v0, vs0, d0, ds0, p0, q0, hargs, rfl, rfl, h0, r0⟩ := trodAll_cons hA
  obtain ⟨v1, vs1, d1, ds1, p1, q1, rfl, rfl, rfl, h1, r1⟩ := trodAll_cons r0
  obtain ⟨rfl, rfl, rfl⟩ := trodAll_nil r1
  obtain rfl : args = #[v0, v1] := by cases args; simp_all
  obtain ⟨e0, f0, y0, z0, m0, rfl, rfl, rfl, hy0, hz0⟩ := Joins.open_agg2 Try.underlying28 (by kernel_rfl) Try.cells28 (hval 0 28 v0 rfl rfl) h0
  obtain ⟨r0x, er0, rfl, wr0⟩ := DataW.trod_int Try.underlying2 hy0
  obtain ⟨m0x, em0, rfl, wm0⟩ := DataW.trod_int Try.underlying2 hz0
  obtain rfl : e0 = .int .i64 r0x := by simpa using er0
  obtain rfl : f0 = .int .i64 m0x := by simpa using em0
  obtain ⟨lr0, gr0⟩ := i64_bd wr0
  obtain ⟨lm0, gm0⟩ := i64_bd wm0
  obtain ⟨a1, rfl, rfl, rfl, w1⟩ := open_int Try.underlying2 (hval 1 2 v1 rfl rfl) h1
  obtain ⟨l1, g1⟩ := i64_bd w1
  exact congruenceNext_walk r0x m0x a1 W lr0 gr0 lm0 gm0 l1 g1

theorem congruenceNext_over : Rows.congruenceNextRow.holds Try.pinned (OpenSpec.ofChange Rows.congruenceNextSpec) :=
  OpenClaim.holds_of_wide 8 Try.f8 rfl rfl rfl rfl rfl rfl rfl ⟨rfl, rfl, rfl, rfl, rfl⟩ rfl rfl rfl rfl rfl (by kernel_rfl) Try.func8 (by kernel_rfl)
    (of_decide_eq_true (by kernel_rfl)) (by unfold Func.isWrapper; first | (rw [if_pos (by decide +kernel)]; kernel_rfl) | (rw [if_neg (by decide +kernel)]; exact ⟨rfl, rfl⟩))
    (fun os started H enc _ => congruenceNext_lifted os started H enc)

theorem congruenceNext_proved : Rows.CongruenceNextSaid := congruenceNext_over
end Go.Proofs.Ytgicdfhhaefibaa
