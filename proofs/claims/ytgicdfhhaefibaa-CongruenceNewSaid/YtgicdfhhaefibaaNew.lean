/- Law CongruenceNew: for every input the call returns true, and its arguments read afterwards as before. -/
import Derived.Test.YtgicdfhhaefibaaAwake
import Derived.Lib.SmallJoins
namespace Go.Proofs.Ytgicdfhhaefibaa
open Go.Sort Go.ChangeShapes Go.WideShapes Go.ChangeAt Go.RowKit

theorem i64_bd {n : Int} (h : (Lit.int .i64 n).wf = true) : -9223372036854775808 ≤ n ∧ n ≤ 9223372036854775807 := by
  have h1 : IntKind.i64.min = -9223372036854775808 := rfl
  have h2 : IntKind.i64.max = 9223372036854775807 := rfl
  simp only [Lit.wf, Bool.and_eq_true, decide_eq_true_eq, h1, h2] at h
  exact h

theorem new_both (r m : Int) : ∃ x y e : Int, (∀ w, Calls Try.prog 13 #[.int .i64 r, .int .i64 m] w fun e' w' => e' = .returned (.tuple #[.agg #[.int .i64 x, .int .i64 y], .int .i64 e]) ∧ Below w.heap.size w w') ∧
    (∀ w, Calls Try.prog 14 #[.int .i64 r, .int .i64 m] w fun e' w' => e' = .returned (.tuple #[.agg #[.int .i64 x, .int .i64 y], .int .i64 e]) ∧ Below w.heap.size w w') := by
  by_cases hm : 1 ≤ m ∧ m ≤ 4611686018427387904
  · exact ⟨r % m, m, 0, fun w => New_ok r m w hm.1 hm.2, fun w => refNew_ok r m w hm.1 hm.2⟩
  · exact ⟨0, 0, 1, fun w => New_bad r m w (by omega), fun w => refNew_bad r m w (by omega)⟩

theorem end_below {w w1 : World} {x : Obj} (h : Below w.heap.size w w1) (d : Nat) (os : Array Obj) : Below w.heap.size w (grow (redrawn (w1.alloc x) d) os) :=
  (h.alloc h.size x).trans ((below_regrown _ d os).mono (by have := h.size; simp; omega))

set_option maxHeartbeats 1000000 in
theorem congruenceNew_walk (r m : Int) (w : World) (_ : -9223372036854775808 ≤ r) (_ : r ≤ 9223372036854775807) (_ : -9223372036854775808 ≤ m) (_ : m ≤ 9223372036854775807) :
    Calls Try.prog 3 #[.int .i64 r, .int .i64 m] w fun e w' => e = .returned (.bool true) ∧ Below w.heap.size w w' := by
  obtain ⟨x, y, e, n1, n2⟩ := new_both r m
  have N1 := Lib.hid n1
  have N2 := Lib.hid n2
  clear n1 n2
  go_enter Try.func3, Try.ntmps3
  go_wp2_with fail
  refine (awake_any _).mono ?_
  rintro e wa ⟨rfl, h1⟩
  go_wp2_with fail
  refine (N1.out _).mono ?_
  rintro e wb ⟨rfl, h2⟩
  have hB := h1.trans (h2.mono h1.size)
  clear h1 h2
  go_wp2_with fail
  refine (N2.out _).mono ?_
  rintro e wc ⟨rfl, h3⟩
  have b0 := keepcell h3 newcell0
  have b1 := keepcell h3 newcell1
  have hC := step_below hB h3
  clear h3 hB
  replace b0 := pastcell (x := .cells #[.int .i64 x, .int .i64 y] 28) b0
  replace b1 := pastcell (x := .cells #[.int .i64 x, .int .i64 y] 28) b1
  have c0 := newcell0 (w := wc) (x := .int .i64 x) (y := .int .i64 y) (T := 28)
  have c1 := newcell1 (w := wc) (x := .int .i64 x) (y := .int .i64 y) (T := 28)
  have b0' := fun d os => cell_regrown b0 d os
  have b1' := fun d os => cell_regrown b1 d os
  have c0' := fun d os => cell_regrown c0 d os
  have c1' := fun d os => cell_regrown c1 d os
  clear b0 b1 c0 c1
  go_wp2_with fail
  refine wp_region_quiet_below (by kernel_rfl) (by kernel_rfl) ?_
  repeat (go_big_quiet_step ((go_at_call 15; exact Calls.regrown_of (of_any _ _ _))))
  refine wpQuiet_nil ?_
  intro _ hw'
  obtain ⟨⟨dq, osq⟩, hw''⟩ := hw'
  subst hw''
  go_wp2
  go_ret
  exact ⟨rfl, end_below hC _ _⟩

theorem Try.cells28 : Try.prog.cellsOf 28 = 2 := by kernel_rfl

set_option maxRecDepth 100000 in
theorem congruenceNew_lifted (os : Os) (started : os.Started) (H : Type) (enc : TypeId × Value → H) :
    ReturnsInHanded {} Try.checked os 3 .any (Rows.congruenceNewSpec.pre6 enc Try.prog Try.f3 Rows.congruenceNewRow.domain false) (Rows.congruenceNewSpec.post enc Try.prog Try.f3 false true false false) := by
  refine law_lifted (C := Try.checked) (B := 4) Try.own started (by kernel_rfl) Try.func3
    (ChangeSpec.witness6 (enc := enc) (C := Try.checked) false ⟨#[], #[.int .i64 0, .int .i64 0], []⟩ 8 (by kernel_rfl) (by kernel_rfl) (by kernel_rfl) (by kernel_rfl))
    Try.laidOut (by kernel_rfl) rfl rfl rfl Try.underlying4 (fun ds h => match ds, h with | [_, _], _ => rfl) ?_
  intro W base args ds ps hval hA hlt hsz
  rw [Try.params3] at hA hval
  clear hlt hsz
  obtain ⟨v0, vs0, d0, ds0, p0, q0, hargs, rfl, rfl, h0, r0⟩ := trodAll_cons hA
  obtain ⟨v1, vs1, d1, ds1, p1, q1, rfl, rfl, rfl, h1, r1⟩ := trodAll_cons r0
  obtain ⟨rfl, rfl, rfl⟩ := trodAll_nil r1
  obtain rfl : args = #[v0, v1] := by cases args; simp_all
  obtain ⟨a0, rfl, rfl, rfl, w0⟩ := open_int Try.underlying2 (hval 0 2 v0 rfl rfl) h0
  obtain ⟨l0, g0⟩ := i64_bd w0
  obtain ⟨a1, rfl, rfl, rfl, w1⟩ := open_int Try.underlying2 (hval 1 2 v1 rfl rfl) h1
  obtain ⟨l1, g1⟩ := i64_bd w1
  exact congruenceNew_walk a0 a1 W l0 g0 l1 g1

theorem congruenceNew_over : Rows.congruenceNewRow.holds Try.pinned (OpenSpec.ofChange Rows.congruenceNewSpec) :=
  OpenClaim.holds_of_wide 3 Try.f3 rfl rfl rfl rfl rfl rfl rfl ⟨rfl, rfl, rfl, rfl, rfl⟩ rfl rfl rfl rfl rfl (by kernel_rfl) Try.func3 (by kernel_rfl)
    (of_decide_eq_true (by kernel_rfl)) (by unfold Func.isWrapper; first | (rw [if_pos (by decide +kernel)]; kernel_rfl) | (rw [if_neg (by decide +kernel)]; exact ⟨rfl, rfl⟩))
    (fun os started H enc _ => congruenceNew_lifted os started H enc)

theorem congruenceNew_proved : Rows.CongruenceNewSaid := congruenceNew_over
end Go.Proofs.Ytgicdfhhaefibaa
