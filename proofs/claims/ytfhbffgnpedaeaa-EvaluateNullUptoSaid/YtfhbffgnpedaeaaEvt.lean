/- Truth values. -/
import Derived.Test.YtfhbffgnpedaeaaSlc
import Derived.Handy
namespace Go.Proofs.Ytfhbffgnpedaeaa
open Go.ChangeShapes Go.WideShapes Go.ChangeAt Go.RowKit Go.ChangeMaps

def kn (a : Int) : Int := if a = 0 then 0 else if a = 1 then 1 else 2
def notM (a : Int) : Int := if kn a = 0 then 1 else if kn a = 1 then 0 else 2
def andM (a b : Int) : Int := if kn a = 0 then 0 else if kn b = 0 then 0 else if kn a = 1 then kn b else kn a
def orM (a b : Int) : Int := if kn a = 1 then 1 else if kn b = 1 then 1 else if kn a = 0 then kn b else kn a
def ofM (b : Bool) : Int := if b = true then 1 else 0
theorem kn_cases (a : Int) : kn a = 0 ∨ kn a = 1 ∨ kn a = 2 := by unfold kn; split; exact .inl rfl; split; exact .inr (.inl rfl); exact .inr (.inr rfl)
theorem known_any (a : Int) (w : World) : Calls Try.prog 49 #[.int .i64 a] w fun e w' => e = .returned (.int .i64 (kn a)) ∧ w = w' := by
  obtain ⟨r, hr⟩ : ∃ r, kn a = r := ⟨_, rfl⟩
  have HR := Lib.hid hr
  rw [hr]
  clear hr
  go_enter Try.func49, Try.ntmps49
  go_wp2
  all_goals
    go_ret
    refine ⟨ret_int ?_, rfl⟩
    have HR := HR.out
    unfold kn at HR
    simp_all
theorem Of_any (b : Bool) (w : World) : Calls Try.prog 35 #[.bool b] w fun e w' => e = .returned (.int .i64 (ofM b)) ∧ w = w' := by
  cases b
  · go_enter Try.func35, Try.ntmps35
    go_wp2
    go_ret
    exact ⟨rfl, rfl⟩
  · go_enter Try.func35, Try.ntmps35
    go_wp2
    go_ret
    exact ⟨rfl, rfl⟩
theorem truth_any (b : Bool) (w : World) : Calls Try.prog 54 #[.bool b] w fun e w' => e = .returned (.int .i64 (ofM b)) ∧ w = w' := by
  cases b
  · go_enter Try.func54, Try.ntmps54
    go_wp2
    go_ret
    exact ⟨rfl, rfl⟩
  · go_enter Try.func54, Try.ntmps54
    go_wp2
    go_ret
    exact ⟨rfl, rfl⟩
theorem of_any (b : Bool) (w : World) : Calls Try.prog 39 #[.bool b] w fun e w' => e = .returned (.int .i64 (ofM b)) ∧ w = w' := by
  cases b
  · go_enter Try.func39, Try.ntmps39
    go_wp2
    go_ret
    exact ⟨rfl, rfl⟩
  · go_enter Try.func39, Try.ntmps39
    go_wp2
    go_ret
    exact ⟨rfl, rfl⟩
theorem Not_any (a : Int) (w : World) : Calls Try.prog 34 #[.int .i64 a] w fun e w' => e = .returned (.int .i64 (notM a)) ∧ w = w' := by
  obtain ⟨r, hr⟩ : ∃ r, notM a = r := ⟨_, rfl⟩
  have HR := Lib.hid hr
  have CK := Lib.hid (fun W => known_any a W)
  have HK := Lib.hid (kn_cases a)
  unfold notM at HR
  rw [hr]
  clear hr
  generalize kn a = k at *
  go_enter Try.func34, Try.ntmps34
  go_wp2_with (go_at_call 49; refine (CK.out _).mono ?_; rintro e w2 ⟨rfl, rfl⟩)
  all_goals
    go_ret
    refine ⟨ret_int ?_, rfl⟩
    have HR := HR.out
    have HK := HK.out
    simp_all
theorem And_any (a b : Int) (w : World) : Calls Try.prog 36 #[.int .i64 a, .int .i64 b] w fun e w' => e = .returned (.int .i64 (andM a b)) ∧ w = w' := by
  obtain ⟨r, hr⟩ : ∃ r, andM a b = r := ⟨_, rfl⟩
  have HR := Lib.hid hr
  have CK := Lib.hid (fun W => known_any a W)
  have CL := Lib.hid (fun W => known_any b W)
  unfold andM at HR
  rw [hr]
  clear hr
  generalize kn a = k at *
  generalize kn b = l at *
  go_enter Try.func36, Try.ntmps36
  go_wp2_with fail
  refine (CK.out _).mono ?_
  rintro e w2 ⟨rfl, rfl⟩
  go_wp2_with fail
  refine (CL.out _).mono ?_
  rintro e w2 ⟨rfl, rfl⟩
  go_wp2
  all_goals
    go_ret
    refine ⟨ret_int ?_, rfl⟩
    have HR := HR.out
    simp_all
theorem Or_any (a b : Int) (w : World) : Calls Try.prog 37 #[.int .i64 a, .int .i64 b] w fun e w' => e = .returned (.int .i64 (orM a b)) ∧ w = w' := by
  obtain ⟨r, hr⟩ : ∃ r, orM a b = r := ⟨_, rfl⟩
  have HR := Lib.hid hr
  have CK := Lib.hid (fun W => known_any a W)
  have CL := Lib.hid (fun W => known_any b W)
  unfold orM at HR
  rw [hr]
  clear hr
  generalize kn a = k at *
  generalize kn b = l at *
  go_enter Try.func37, Try.ntmps37
  go_wp2_with fail
  refine (CK.out _).mono ?_
  rintro e w2 ⟨rfl, rfl⟩
  go_wp2_with fail
  refine (CL.out _).mono ?_
  rintro e w2 ⟨rfl, rfl⟩
  go_wp2
  all_goals
    go_ret
    refine ⟨ret_int ?_, rfl⟩
    have HR := HR.out
    simp_all
end Go.Proofs.Ytfhbffgnpedaeaa
