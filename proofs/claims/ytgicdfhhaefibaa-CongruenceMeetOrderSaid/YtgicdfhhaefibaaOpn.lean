/- How the parameters of this layer's laws are opened. -/
import Derived.Test.YtgicdfhhaefibaaAwake
import Derived.Lib.SmallJoins
namespace Go.Proofs.Ytgicdfhhaefibaa
open Go.Sort Go.ChangeShapes Go.WideShapes Go.ChangeAt Go.RowKit

theorem i64_bd {n : Int} (h : (Lit.int .i64 n).wf = true) : -9223372036854775808 ≤ n ∧ n ≤ 9223372036854775807 := by
  have h1 : IntKind.i64.min = -9223372036854775808 := rfl
  have h2 : IntKind.i64.max = 9223372036854775807 := rfl
  simp only [Lit.wf, Bool.and_eq_true, decide_eq_true_eq, h1, h2] at h
  exact h
theorem Try.cells28 : Try.prog.cellsOf 28 = 2 := by kernel_rfl
theorem box_below {w w1 : World} {x : Obj} (h2 : Below (w.alloc x).heap.size (w.alloc x) w1) : Below w.heap.size w w1 :=
  ((Below.refl _ _).alloc (Nat.le_refl _) x).trans (h2.mono (by simp))
theorem more_below {w w1 w2 : World} (h : Below w.heap.size w w1) (h2 : Below w1.heap.size w1 w2) : Below w.heap.size w w2 :=
  h.trans (h2.mono h.size)
theorem end_below' {w w1 : World} (h : Below w.heap.size w w1) (d : Nat) (os : Array Obj) : Below w.heap.size w (grow (redrawn w1 d) os) :=
  h.trans ((below_regrown _ d os).mono h.size)
end Go.Proofs.Ytgicdfhhaefibaa
