/- The reference's least box that contains two: one of them empty. -/
import Derived.Test.YtcocdhndhlegiaaSow
import Derived.Handy
namespace Go.Proofs.Ytcocdhndhlegiaa
open Go.ChangeShapes Go.WideShapes Go.ChangeAt Go.RowKit Go.ChangeMaps

set_option maxRecDepth 100000 in
set_option maxHeartbeats 2000000 in
theorem RHull_left (t u : Int) (A : Option Addr) (n c : Nat) (A2 : Option Addr) (m c2 : Nat) (w : World) (hn : n ≤ 1000) (hm : m ≤ 1000) (hz : n = 0) :
    Calls Try.prog 20 #[.agg #[.int .i64 t, .slice A n c], .agg #[.int .i64 u, .slice A2 m c2]] w fun e w' => e = .returned (.agg #[.int .i64 u, .slice A2 m c2]) ∧ Below w.heap.size w w' := by
  subst hz
  go_enter Try.func20, Try.ntmps20
  go_wp2
  go_returns
  exact ⟨rfl, (((Below.refl _ w).alloc (Nat.le_refl _) _).alloc (by simp) _).alloc (by simp; omega) _⟩
set_option maxRecDepth 100000 in
set_option maxHeartbeats 2000000 in
theorem RHull_right (t u : Int) (A : Option Addr) (n c : Nat) (A2 : Option Addr) (m c2 : Nat) (w : World) (hn : n ≤ 1000) (hm : m ≤ 1000) (hz : ¬ n = 0) (hz2 : m = 0) :
    Calls Try.prog 20 #[.agg #[.int .i64 t, .slice A n c], .agg #[.int .i64 u, .slice A2 m c2]] w fun e w' => e = .returned (.agg #[.int .i64 t, .slice A n c]) ∧ Below w.heap.size w w' := by
  subst hz2
  have hz0 : ((n : Int) == 0) = false := by simp; omega
  go_enter Try.func20, Try.ntmps20
  go_wp2
  go_returns
  exact ⟨rfl, (((Below.refl _ w).alloc (Nat.le_refl _) _).alloc (by simp) _).alloc (by simp; omega) _⟩
end Go.Proofs.Ytcocdhndhlegiaa
