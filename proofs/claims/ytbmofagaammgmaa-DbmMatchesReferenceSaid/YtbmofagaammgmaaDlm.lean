/- Small things: limit, small. -/
import Derived.Test.YtbmofagaammgmaaDof
namespace Go.Proofs.Ytbmofagaammgmaa
open Go.ChangeShapes Go.WideShapes Go.ChangeAt Go.RowKit Go.ChangeMaps

theorem limit_any (w : World) : Calls Try.prog 29 #[] w fun e w' => e = .returned (.int .i64 1125899906842624) ∧ w' = w := by
  go_enter Try.func29, Try.ntmps29
  go_wp2
  go_ret
  exact ⟨rfl, rfl⟩
theorem small_any (w : World) (n : Int) (A : Option Addr) (m c : Nat) : Calls Try.prog 12 #[.int .i64 n, .slice A m c] w fun e w' => e = .returned (.bool (decide (n ≤ 10) && decide (m ≤ 40))) ∧ w' = w := by
  by_cases h : n ≤ 10
  · by_cases h2 : m ≤ 40
    · have h3 : (m : Int) ≤ 40 := by omega
      go_enter Try.func12, Try.ntmps12
      go_wp2
      go_ret
      exact ⟨by simp [h, h2], rfl⟩
    · have h3 : ¬ (m : Int) ≤ 40 := by omega
      go_enter Try.func12, Try.ntmps12
      go_wp2
      go_ret
      exact ⟨by simp [h2], rfl⟩
  · go_enter Try.func12, Try.ntmps12
    go_wp2
    go_ret
    exact ⟨by rw [show decide (n ≤ 10) = false from decide_eq_false (by omega)]; rfl, rfl⟩
end Go.Proofs.Ytbmofagaammgmaa
