/- Law CongruenceContains: for every input the call returns true, and its arguments read afterwards as before. -/
import Derived.Test.YtgicdfhhaefibaaOpn
namespace Go.Proofs.Ytgicdfhhaefibaa
open Go.Sort Go.ChangeShapes Go.WideShapes Go.ChangeAt Go.RowKit

set_option maxHeartbeats 1000000 in
theorem congruenceContains_walk (r m n : Int) (w : World) (_ : -9223372036854775808 ≤ r) (_ : r ≤ 9223372036854775807) (_ : -9223372036854775808 ≤ m) (_ : m ≤ 9223372036854775807) (_ : -9223372036854775808 ≤ n) (_ : n ≤ 9223372036854775807) :
    Calls Try.prog 4 #[.agg #[.int .i64 r, .int .i64 m], .int .i64 n] w fun e w' => e = .returned (.bool true) ∧ Below w.heap.size w w' := by
  obtain ⟨c, hc⟩ : ∃ c, cont r m n = c := ⟨_, rfl⟩
  have N1 := Lib.hid (fun w => hc ▸ Contains_any r m n w)
  have N2 := Lib.hid (fun w => hc ▸ refContains_any r m n w)
  clear hc
  go_enter Try.func4, Try.ntmps4
  go_wp2_with fail
  have c0 := newcell0 (w := w) (x := .int .i64 r) (y := .int .i64 m) (T := 28)
  have c1 := newcell1 (w := w) (x := .int .i64 r) (y := .int .i64 m) (T := 28)
  have c0' := fun d os => cell_regrown c0 d os
  have c1' := fun d os => cell_regrown c1 d os
  clear c0 c1
  refine wp_region_quiet_below (by kernel_rfl) (by kernel_rfl) ?_
  repeat (go_big_quiet_step ((first | (go_at_call 12; exact Calls.regrown_of (awake_any _)) | (go_at_call 17; exact Calls.regrown_of (to_any _ _ _)) | (go_at_call 16; exact Calls.regrown_of (N1.out _)) | (go_at_call 18; exact Calls.regrown_of (N2.out _)))))
  refine wpQuiet_nil ?_
  intro _ hw'
  obtain ⟨⟨dq, osq⟩, hw''⟩ := hw'
  subst hw''
  go_wp2
  go_ret
  exact ⟨rfl, boxed_below _ _ _ _⟩

set_option maxRecDepth 100000 in
theorem congruenceContains_lifted (os : Os) (started : os.Started) (H : Type) (enc : TypeId × Value → H) :
    ReturnsInHanded {} Try.checked os 4 .any (Rows.congruenceContainsSpec.pre6 enc Try.prog Try.f4 Rows.congruenceContainsRow.domain false) (Rows.congruenceContainsSpec.post enc Try.prog Try.f4 false true false false) := by
  refine law_lifted (C := Try.checked) (B := 4) Try.own started (by kernel_rfl) Try.func4
    (ChangeSpec.witness6 (enc := enc) (C := Try.checked) false ⟨#[], #[.agg #[.int .i64 0, .int .i64 0], .int .i64 0], []⟩ 8 (by kernel_rfl) (by kernel_rfl) (by kernel_rfl) (by kernel_rfl))
    Try.laidOut (by kernel_rfl) rfl rfl rfl Try.underlying4 (fun ds h => match ds, h with | [_, _], _ => rfl) ?_
  intro W base args ds ps hval hA hlt hsz
  rw [Try.params4] at hA hval
  clear hlt hsz
  obtain ⟨v0, vs0, d0, ds0, p0, q0, hargs, rfl, rfl, h0, r0⟩ := trodAll_cons hA
  obtain ⟨v1, vs1, d1, ds1, p1, q1, rfl, rfl, rfl, h1, r1⟩ := trodAll_cons r0
  obtain ⟨rfl, rfl, rfl⟩ := trodAll_nil r1
  obtain rfl : args = #[v0, v1] := by cases args; simp_all
  obtain ⟨e0, f0, y0, z0, m0, rfl, rfl, rfl, hy0, hz0⟩ := Joins.open_agg2 Try.underlying28 (by kernel_rfl) Try.cells28 (hval 0 28 v0 rfl rfl) h0
  obtain ⟨r0x, er0, rfl, wr0⟩ := DataW.trod_int Try.underlying2 hy0
  obtain ⟨m0x, em0, rfl, wm0⟩ := DataW.trod_int Try.underlying2 hz0
  obtain rfl : e0 = .int .i64 r0x := by simpa using er0
  obtain rfl : f0 = .int .i64 m0x := by simpa using em0
  obtain ⟨lr0, gr0⟩ := i64_bd wr0
  obtain ⟨lm0, gm0⟩ := i64_bd wm0
  obtain ⟨a1, rfl, rfl, rfl, w1⟩ := open_int Try.underlying2 (hval 1 2 v1 rfl rfl) h1
  obtain ⟨l1, g1⟩ := i64_bd w1
  exact congruenceContains_walk r0x m0x a1 W lr0 gr0 lm0 gm0 l1 g1

theorem congruenceContains_over : Rows.congruenceContainsRow.holds Try.pinned (OpenSpec.ofChange Rows.congruenceContainsSpec) :=
  OpenClaim.holds_of_wide 4 Try.f4 rfl rfl rfl rfl rfl rfl rfl ⟨rfl, rfl, rfl, rfl, rfl⟩ rfl rfl rfl rfl rfl (by kernel_rfl) Try.func4 (by kernel_rfl)
    (of_decide_eq_true (by kernel_rfl)) (by unfold Func.isWrapper; first | (rw [if_pos (by decide +kernel)]; kernel_rfl) | (rw [if_neg (by decide +kernel)]; exact ⟨rfl, rfl⟩))
    (fun os started H enc _ => congruenceContains_lifted os started H enc)

theorem congruenceContains_proved : Rows.CongruenceContainsSaid := congruenceContains_over
end Go.Proofs.Ytgicdfhhaefibaa
