/- A number brought between two limits. -/
import Derived.Test.YthageombfifffaaDoorAct
namespace Go.Proofs.YthageombfifffaaDoor
open Go.ChangeShapes Go.WideShapes Go.ChangeAt Go.RowKit Go.ChangeMaps

def wi (n lo hi : Int) : Int := if n < lo then lo else if hi < n then hi else n
theorem wi_bd (n lo hi : Int) (h : lo ≤ hi) : lo ≤ wi n lo hi ∧ wi n lo hi ≤ hi := by unfold wi; split <;> (try split) <;> omega
theorem within_any (n lo hi : Int) (w : World) (h : lo ≤ hi) : Calls Tryd.prog 23 #[.int .i64 n, .int .i64 lo, .int .i64 hi] w fun e w' => e = .returned (.int .i64 (wi n lo hi)) ∧ w = w' := by
  rcases (show n < lo ∨ (lo ≤ n ∧ n ≤ hi) ∨ (lo ≤ n ∧ hi < n) by omega) with h1 | ⟨h1, h2⟩ | ⟨h1, h2⟩
  · have H := Lib.hid (show wi n lo hi = lo by unfold wi; rw [if_pos h1])
    have m1 : min n hi = n := by omega
    have m2 : max lo n = lo := by omega
    go_enter Tryd.func23, Tryd.ntmps23
    go_wp2
    all_goals
      go_ret
      exact ⟨ret_int (by rw [H.out]; try omega), rfl⟩
  · have H := Lib.hid (show wi n lo hi = n by unfold wi; rw [if_neg (by omega), if_neg (by omega)])
    have m1 : min n hi = n := by omega
    have m2 : max lo n = n := by omega
    have c1 : ¬ n < lo := by omega
    have c2 : ¬ hi < n := by omega
    go_enter Tryd.func23, Tryd.ntmps23
    go_wp2
    all_goals
      go_ret
      exact ⟨ret_int (by rw [H.out]; try omega), rfl⟩
  · have H := Lib.hid (show wi n lo hi = hi by unfold wi; rw [if_neg (by omega), if_pos h2])
    have m1 : min n hi = hi := by omega
    have m2 : max lo hi = hi := by omega
    have c1 : ¬ n < lo := by omega
    go_enter Tryd.func23, Tryd.ntmps23
    go_wp2
    all_goals
      go_ret
      exact ⟨ret_int (by rw [H.out]; try omega), rfl⟩
theorem clamp_any (n lo hi : Int) (w : World) (h : lo ≤ hi) : Calls Tryd.prog 24 #[.int .i64 n, .int .i64 lo, .int .i64 hi] w fun e w' => e = .returned (.int .i64 (wi n lo hi)) ∧ w = w' := by
  rcases (show n < lo ∨ (lo ≤ n ∧ n ≤ hi) ∨ (lo ≤ n ∧ hi < n) by omega) with h1 | ⟨h1, h2⟩ | ⟨h1, h2⟩
  · have H := Lib.hid (show wi n lo hi = lo by unfold wi; rw [if_pos h1])
    have m1 : min n hi = n := by omega
    have m2 : max lo n = lo := by omega
    go_enter Tryd.func24, Tryd.ntmps24
    go_wp2
    all_goals
      go_ret
      exact ⟨ret_int (by rw [H.out]; try omega), rfl⟩
  · have H := Lib.hid (show wi n lo hi = n by unfold wi; rw [if_neg (by omega), if_neg (by omega)])
    have m1 : min n hi = n := by omega
    have m2 : max lo n = n := by omega
    have c1 : ¬ n < lo := by omega
    have c2 : ¬ hi < n := by omega
    go_enter Tryd.func24, Tryd.ntmps24
    go_wp2
    all_goals
      go_ret
      exact ⟨ret_int (by rw [H.out]; try omega), rfl⟩
  · have H := Lib.hid (show wi n lo hi = hi by unfold wi; rw [if_neg (by omega), if_pos h2])
    have m1 : min n hi = hi := by omega
    have m2 : max lo hi = hi := by omega
    have c1 : ¬ n < lo := by omega
    go_enter Tryd.func24, Tryd.ntmps24
    go_wp2
    all_goals
      go_ret
      exact ⟨ret_int (by rw [H.out]; try omega), rfl⟩
end Go.Proofs.YthageombfifffaaDoor
