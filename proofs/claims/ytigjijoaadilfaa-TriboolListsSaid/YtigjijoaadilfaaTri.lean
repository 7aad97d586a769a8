/- The functions of package tribool and of its reference compute the truth tables: one contract for each function. -/
import Derived.Test.YtigjijoaadilfaaRows
import Derived.WalkKit
import Derived.ProofKit
import Derived.OpenShut
import Derived.Lib.Hide
namespace Go.Proofs.Ytigjijoaadilfaa
open Go.ChangeShapes Go.WideShapes Go.ChangeAt Go.RowKit

def kn (a : Int) : Int := if a = 0 then 0 else if a = 1 then 1 else 2
def tand (a b : Int) : Int := if kn a = 0 then 0 else if kn b = 0 then 0 else if kn a = 1 then kn b else 2
def tor (a b : Int) : Int := if kn a = 1 then 1 else if kn b = 1 then 1 else if kn a = 0 then kn b else 2
def tnot (a : Int) : Int := if kn a = 0 then 1 else if kn a = 1 then 0 else 2
def tof (b : Bool) : Int := if b then 1 else 0

theorem kn_cases (a : Int) : kn a = 0 ∨ kn a = 1 ∨ kn a = 2 := by
  unfold kn; by_cases h0 : a = 0
  · simp [h0]
  · by_cases h1 : a = 1 <;> simp [h0, h1]

theorem ret_int {k : IntKind} {a b : Int} (h : a = b) : Ending.returned (.int k a) = .returned (.int k b) := by rw [h]
theorem ret_bool {a b : Bool} (h : a = b) : Ending.returned (.bool a) = .returned (.bool b) := by rw [h]

theorem known_is (a v : Int) (w : World) (h : kn a = v) : Calls Try.prog 21 #[.int .i64 a] w fun e w' => e = .returned (.int .i64 v) ∧ w = w' := by
  subst h
  by_cases h0 : a = 0
  · subst h0
    go_enter Try.func21, Try.ntmps21
    go_wp2
    go_ret
    exact ⟨ret_int (by simp [kn]), rfl⟩
  · by_cases h1 : a = 1
    · subst h1
      go_enter Try.func21, Try.ntmps21
      go_wp2
      go_ret
      exact ⟨ret_int (by simp [kn]), rfl⟩
    · have e : kn a = 2 := by simp [kn, h0, h1]
      rw [e]
      have b0 : (a == 0) = false := by simpa using h0
      have b1 : (a == 1) = false := by simpa using h1
      clear h0 h1 e
      go_enter Try.func21, Try.ntmps21
      go_wp2
      go_ret
      exact ⟨rfl, rfl⟩

theorem value_is (a v : Int) (w : World) (h : kn a = v) : Calls Try.prog 20 #[.int .i64 a] w fun e w' => e = .returned (.int .i64 v) ∧ w = w' := by
  subst h
  by_cases h0 : a = 0
  · subst h0
    go_enter Try.func20, Try.ntmps20
    go_wp2
    go_ret
    exact ⟨ret_int (by simp [kn]), rfl⟩
  · by_cases h1 : a = 1
    · subst h1
      go_enter Try.func20, Try.ntmps20
      go_wp2
      go_ret
      exact ⟨ret_int (by simp [kn]), rfl⟩
    · have e : kn a = 2 := by simp [kn, h0, h1]
      rw [e]
      have b0 : (a == 0) = false := by simpa using h0
      have b1 : (a == 1) = false := by simpa using h1
      clear h0 h1 e
      go_enter Try.func20, Try.ntmps20
      go_wp2
      go_ret
      exact ⟨rfl, rfl⟩

set_option maxHeartbeats 4000000 in
theorem and_any (a b : Int) (w : World) : Calls Try.prog 10 #[.int .i64 a, .int .i64 b] w fun e w' => e = .returned (.int .i64 (tand a b)) ∧ w = w' := by
  rcases kn_cases a with ha | ha | ha <;> rcases kn_cases b with hb | hb | hb
  all_goals
    have e := show tand a b = _ by unfold tand; rw [ha, hb]
    rw [e]; clear e
    have Ha := Lib.hid ha
    have Hb := Lib.hid hb
    clear ha hb
    go_enter Try.func10, Try.ntmps10
    go_wp2_with (go_at_call 21; first | ((with_reducible refine (known_is a _ _ Ha.out).mono ?_); rintro e w' ⟨rfl, rfl⟩) | ((with_reducible refine (known_is b _ _ Hb.out).mono ?_); rintro e w' ⟨rfl, rfl⟩))
    go_ret
    exact ⟨rfl, rfl⟩
set_option maxHeartbeats 4000000 in
theorem refand_any (a b : Int) (w : World) : Calls Try.prog 11 #[.int .i64 a, .int .i64 b] w fun e w' => e = .returned (.int .i64 (tand a b)) ∧ w = w' := by
  rcases kn_cases a with ha | ha | ha <;> rcases kn_cases b with hb | hb | hb
  all_goals
    have e := show tand a b = _ by unfold tand; rw [ha, hb]
    rw [e]; clear e
    have Ha := Lib.hid ha
    have Hb := Lib.hid hb
    clear ha hb
    go_enter Try.func11, Try.ntmps11
    go_wp2_with (go_at_call 20; first | ((with_reducible refine (value_is a _ _ Ha.out).mono ?_); rintro e w' ⟨rfl, rfl⟩) | ((with_reducible refine (value_is b _ _ Hb.out).mono ?_); rintro e w' ⟨rfl, rfl⟩))
    go_ret
    exact ⟨rfl, rfl⟩

set_option maxHeartbeats 4000000 in
theorem or_any (a b : Int) (w : World) : Calls Try.prog 12 #[.int .i64 a, .int .i64 b] w fun e w' => e = .returned (.int .i64 (tor a b)) ∧ w = w' := by
  rcases kn_cases a with ha | ha | ha <;> rcases kn_cases b with hb | hb | hb
  all_goals
    have e := show tor a b = _ by unfold tor; rw [ha, hb]
    rw [e]; clear e
    have Ha := Lib.hid ha
    have Hb := Lib.hid hb
    clear ha hb
    go_enter Try.func12, Try.ntmps12
    go_wp2_with (go_at_call 21; first | ((with_reducible refine (known_is a _ _ Ha.out).mono ?_); rintro e w' ⟨rfl, rfl⟩) | ((with_reducible refine (known_is b _ _ Hb.out).mono ?_); rintro e w' ⟨rfl, rfl⟩))
    go_ret
    exact ⟨rfl, rfl⟩

theorem not_any (a : Int) (w : World) : Calls Try.prog 14 #[.int .i64 a] w fun e w' => e = .returned (.int .i64 (tnot a)) ∧ w = w' := by
  rcases kn_cases a with ha | ha | ha
  all_goals
    have e := show tnot a = _ by unfold tnot; rw [ha]
    rw [e]; clear e
    have Ha := Lib.hid ha
    clear ha
    go_enter Try.func14, Try.ntmps14
    go_wp2_with (go_at_call 21; refine (known_is a _ _ Ha.out).mono ?_; rintro e w' ⟨rfl, rfl⟩)
    go_ret
    exact ⟨rfl, rfl⟩

theorem refnot_any (a : Int) (w : World) : Calls Try.prog 15 #[.int .i64 a] w fun e w' => e = .returned (.int .i64 (tnot a)) ∧ w = w' := by
  rcases kn_cases a with ha | ha | ha
  all_goals
    have e := show tnot a = _ by unfold tnot; rw [ha]
    rw [e]; clear e
    have Ha := Lib.hid ha
    clear ha
    go_enter Try.func15, Try.ntmps15
    go_wp2_with (go_at_call 20; refine (value_is a _ _ Ha.out).mono ?_; rintro e w' ⟨rfl, rfl⟩)
    go_ret
    exact ⟨rfl, rfl⟩

theorem tor_eq (a b : Int) : tor a b = tnot (tand (tnot a) (tnot b)) := by
  unfold tor tnot tand
  rcases kn_cases a with ha | ha | ha <;> rcases kn_cases b with hb | hb | hb <;> rw [ha, hb] <;> rfl

theorem refor_any (a b : Int) (w : World) : Calls Try.prog 13 #[.int .i64 a, .int .i64 b] w fun e w' => e = .returned (.int .i64 (tor a b)) ∧ w = w' := by
  rw [tor_eq a b]
  go_enter Try.func13, Try.ntmps13
  go_wp2_with (first | (go_at_call 15; refine (refnot_any _ _).mono ?_; rintro e w' ⟨rfl, rfl⟩) | (go_at_call 11; refine (refand_any _ _ _).mono ?_; rintro e w' ⟨rfl, rfl⟩))
  go_ret
  exact ⟨rfl, rfl⟩

theorem of_any (b : Bool) (w : World) : Calls Try.prog 18 #[.bool b] w fun e w' => e = .returned (.int .i64 (tof b)) ∧ w = w' := by
  cases b
  all_goals
    go_enter Try.func18, Try.ntmps18
    go_wp2
    go_ret
    exact ⟨rfl, rfl⟩

theorem refof_any (b : Bool) (w : World) : Calls Try.prog 19 #[.bool b] w fun e w' => e = .returned (.int .i64 (tof b)) ∧ w = w' := by
  cases b
  all_goals
    go_enter Try.func19, Try.ntmps19
    go_wp2
    go_ret
    exact ⟨rfl, rfl⟩

theorem all_none (w : World) : Calls Try.prog 16 #[.slice none 0 0] w fun e w' => e = .returned (.int .i64 1) ∧ w = w' := by
  go_enter Try.func16, Try.ntmps16
  go_wp2
  go_loop [3, 8] (fun r i => r = .int .i64 1 ∧ i = .int .i64 0) (fun _ _ => 0)
  case atStart => exact ⟨rfl, rfl⟩
  case round =>
    obtain ⟨rfl, rfl⟩ := hrel
    go_wp2
    go_ret
    exact ⟨rfl, rfl⟩

theorem awake_any (w : World) : Calls Try.prog 9 #[] w fun e w' => e = .returned (.bool true) ∧ w = w' := by
  have f1 : (tand 1 2 == 2) = true := by decide
  have f2 : (tand 0 2 == 0) = true := by decide
  have f3 : (tor 1 2 == 1) = true := by decide
  have f4 : (tnot 0 == 1) = true := by decide
  go_enter Try.func9, Try.ntmps9
  go_wp2_with (first | (go_at_call 10; refine (and_any _ _ _).mono ?_; rintro e w' ⟨rfl, rfl⟩) | (go_at_call 12; refine (or_any _ _ _).mono ?_; rintro e w' ⟨rfl, rfl⟩) | (go_at_call 14; refine (not_any _ _).mono ?_; rintro e w' ⟨rfl, rfl⟩) | (go_at_call 16; refine (all_none _).mono ?_; rintro e w' ⟨rfl, rfl⟩))
  go_ret
  exact ⟨rfl, rfl⟩
end Go.Proofs.Ytigjijoaadilfaa
