/- The connectives of package tribool at this program, and the examples that the law calls first. -/
import Derived.Test.YtigjijoaadilfaaDoorWalk
namespace Go.Proofs.YtigjijoaadilfaaDoor
open Go.ChangeShapes Go.WideShapes Go.ChangeAt Go.RowKit

def tand (a b : Int) : Int := if kn a = 0 then 0 else if kn b = 0 then 0 else if kn a = 1 then kn b else 2
def tor (a b : Int) : Int := if kn a = 1 then 1 else if kn b = 1 then 1 else if kn a = 0 then kn b else 2
def tnot (a : Int) : Int := if kn a = 0 then 1 else if kn a = 1 then 0 else 2


set_option maxHeartbeats 4000000 in
theorem and_any (a b : Int) (w : World) : Calls Tryd.prog 9 #[.int .i64 a, .int .i64 b] w fun e w' => e = .returned (.int .i64 (tand a b)) ∧ w = w' := by
  rcases kn_cases a with ha | ha | ha <;> rcases kn_cases b with hb | hb | hb
  all_goals
    have e := show tand a b = _ by unfold tand; rw [ha, hb]
    rw [e]; clear e
    have Ha := Lib.hid ha
    have Hb := Lib.hid hb
    clear ha hb
    go_enter Tryd.func9, Tryd.ntmps9
    go_wp2_with (go_at_call 13; first | ((with_reducible refine (known_is a _ _ Ha.out).mono ?_); rintro e w' ⟨rfl, rfl⟩) | ((with_reducible refine (known_is b _ _ Hb.out).mono ?_); rintro e w' ⟨rfl, rfl⟩))
    go_ret
    exact ⟨rfl, rfl⟩
set_option maxHeartbeats 4000000 in
theorem or_any (a b : Int) (w : World) : Calls Tryd.prog 11 #[.int .i64 a, .int .i64 b] w fun e w' => e = .returned (.int .i64 (tor a b)) ∧ w = w' := by
  rcases kn_cases a with ha | ha | ha <;> rcases kn_cases b with hb | hb | hb
  all_goals
    have e := show tor a b = _ by unfold tor; rw [ha, hb]
    rw [e]; clear e
    have Ha := Lib.hid ha
    have Hb := Lib.hid hb
    clear ha hb
    go_enter Tryd.func11, Tryd.ntmps11
    go_wp2_with (go_at_call 13; first | ((with_reducible refine (known_is a _ _ Ha.out).mono ?_); rintro e w' ⟨rfl, rfl⟩) | ((with_reducible refine (known_is b _ _ Hb.out).mono ?_); rintro e w' ⟨rfl, rfl⟩))
    go_ret
    exact ⟨rfl, rfl⟩

theorem not_any (a : Int) (w : World) : Calls Tryd.prog 12 #[.int .i64 a] w fun e w' => e = .returned (.int .i64 (tnot a)) ∧ w = w' := by
  rcases kn_cases a with ha | ha | ha
  all_goals
    have e := show tnot a = _ by unfold tnot; rw [ha]
    rw [e]; clear e
    have Ha := Lib.hid ha
    clear ha
    go_enter Tryd.func12, Tryd.ntmps12
    go_wp2_with (go_at_call 13; refine (known_is a _ _ Ha.out).mono ?_; rintro e w' ⟨rfl, rfl⟩)
    go_ret
    exact ⟨rfl, rfl⟩

theorem all_none (w : World) : Calls Tryd.prog 10 #[.slice none 0 0] w fun e w' => e = .returned (.int .i64 1) ∧ w = w' := by
  go_enter Tryd.func10, Tryd.ntmps10
  go_wp2
  go_loop [3, 8] (fun r i => r = .int .i64 1 ∧ i = .int .i64 0) (fun _ _ => 0)
  case atStart => exact ⟨rfl, rfl⟩
  case round =>
    obtain ⟨rfl, rfl⟩ := hrel
    go_wp2
    go_ret
    exact ⟨rfl, rfl⟩

theorem awake_any (w : World) : Calls Tryd.prog 4 #[] w fun e w' => e = .returned (.bool true) ∧ w = w' := by
  have f1 : (tand 1 2 == 2) = true := by decide
  have f2 : (tand 0 2 == 0) = true := by decide
  have f3 : (tor 1 2 == 1) = true := by decide
  have f4 : (tnot 0 == 1) = true := by decide
  go_enter Tryd.func4, Tryd.ntmps4
  go_wp2_with (first | (go_at_call 9; refine (and_any _ _ _).mono ?_; rintro e w' ⟨rfl, rfl⟩) | (go_at_call 11; refine (or_any _ _ _).mono ?_; rintro e w' ⟨rfl, rfl⟩) | (go_at_call 12; refine (not_any _ _).mono ?_; rintro e w' ⟨rfl, rfl⟩) | (go_at_call 10; refine (all_none _).mono ?_; rintro e w' ⟨rfl, rfl⟩))
  go_ret
  exact ⟨rfl, rfl⟩

end Go.Proofs.YtigjijoaadilfaaDoor
