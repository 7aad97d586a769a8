/- The small functions of a log. -/
import Derived.Test.YtgpofkabidginaaRrd
import Derived.Test.YtgpofkabidginaaRnw
import Derived.Test.YtgpofkabidginaaWmt
namespace Go.Proofs.Ytgpofkabidginaa
open Go.ChangeShapes Go.WideShapes Go.ChangeAt Go.RowKit Go.ChangeMaps

def freeM (n : Int) : Int := max (min (n - 4) 16777216) (-1)
def capM (n : Int) : Int := if n < 1 then -1 else freeM (59 * min n 1048576)
theorem free_any (w : World) (n : Int) (h0 : -1000000000 ≤ n) (h1 : n ≤ 1000000000) : Calls Try.prog 49 #[.int .i64 n] w fun e w' => e = .returned (.int .i64 (freeM n)) ∧ w = w' := by
  have H : Hid (freeM n = max (min (n - 4) 16777216) (-1)) := Lib.hid rfl
  go_enter Try.func49, Try.ntmps49
  go_wp2
  all_goals go_ret
  all_goals exact ⟨ret_int (by rw [H.out]; omega), rfl⟩
theorem rfree_any (w : World) (n : Int) (h0 : -1000000000 ≤ n) (h1 : n ≤ 1000000000) : Calls Try.prog 50 #[.int .i64 n] w fun e w' => e = .returned (.int .i64 (freeM n)) ∧ w = w' := by
  have H : Hid (freeM n = max (min (n - 4) 16777216) (-1)) := Lib.hid rfl
  go_enter Try.func50, Try.ntmps50
  go_wp2
  all_goals go_ret
  all_goals exact ⟨ret_int (by rw [H.out]; omega), rfl⟩
theorem Cap_any (w : World) (n : Int) : Calls Try.prog 34 #[.int .i64 n] w fun e w' => e = .returned (.int .i64 (capM n)) ∧ w = w' := by
  have H : Hid (capM n = if n < 1 then -1 else freeM (59 * min n 1048576)) := Lib.hid rfl
  by_cases hn : n < 1
  · have hm : min n 1048576 = n := by omega
    go_enter Try.func34, Try.ntmps34
    go_wp2
    all_goals go_ret
    all_goals exact ⟨ret_int (by rw [H.out, if_pos (by omega)]), rfl⟩
  · go_enter Try.func34, Try.ntmps34
    go_wp2_with (go_at_call 49; refine (free_any _ _ (by omega) (by omega)).mono ?_; rintro e w' ⟨rfl, rfl⟩)
    all_goals go_ret
    all_goals exact ⟨ret_int (by rw [H.out, if_neg (by omega)]; congr 1; omega), rfl⟩
theorem RCap_any (w : World) (n : Int) : Calls Try.prog 35 #[.int .i64 n] w fun e w' => e = .returned (.int .i64 (capM n)) ∧ w = w' := by
  have H : Hid (capM n = if n < 1 then -1 else freeM (59 * min n 1048576)) := Lib.hid rfl
  have H2 : ∀ m : Int, Hid (freeM m = max (min (m - 4) 16777216) (-1)) := fun m => Lib.hid rfl
  by_cases hn : n < 1
  · go_enter Try.func35, Try.ntmps35
    go_wp2
    go_ret
    exact ⟨ret_int (by rw [H.out, if_pos (by omega)]), rfl⟩
  · have hn1 : 1 ≤ n := by omega
    by_cases hn2 : 1048576 < n
    · go_enter Try.func35, Try.ntmps35
      go_wp2
      go_ret
      exact ⟨ret_int (by rw [H.out, if_neg (by omega), (H2 _).out]; omega), rfl⟩
    · go_enter Try.func35, Try.ntmps35
      go_wp2_with (go_at_call 50; refine (rfree_any _ _ (by omega) (by omega)).mono ?_; rintro e w' ⟨rfl, rfl⟩)
      go_ret
      exact ⟨ret_int (by rw [H.out, if_neg (by omega)]; congr 1; omega), rfl⟩
def mayB (n f c e : Int) : Bool := decide (0 ≤ f ∧ f ≤ n ∧ 1 ≤ c ∧ c ≤ n - f ∧ 1 ≤ e)
theorem May_any (w : World) (n f c e : Int) (hn0 : 0 ≤ n) (hn : n ≤ 65536) (b : Bool) (hb : mayB n f c e = b) : Calls Try.prog 25 #[.int .i64 n, .int .i64 f, .int .i64 c, .int .u32 e] w fun e w' => e = .returned (.bool b) ∧ w = w' := by
  have H : Hid (mayB n f c e = decide (0 ≤ f ∧ f ≤ n ∧ 1 ≤ c ∧ c ≤ n - f ∧ 1 ≤ e)) := Lib.hid rfl
  have HB := Lib.hid hb
  clear hb
  go_enter Try.func25, Try.ntmps25
  go_wp2
  all_goals go_ret
  all_goals refine ⟨ret_bool ?_, rfl⟩
  all_goals rw [← HB.out, H.out, Bool.eq_iff_iff]
  all_goals simp only [decide_eq_true_eq, Bool.false_eq_true, false_iff]
  all_goals omega
end Go.Proofs.Ytgpofkabidginaa
