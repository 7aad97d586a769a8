/- Law TriboolText: for every number and every string the call returns true, and both read afterwards as before; the table of names starts as the program's text lays it. -/
import Derived.Test.YtigjijoaadilfaaDoorCon
namespace Go.Proofs.YtigjijoaadilfaaDoor
open Go.ChangeShapes Go.WideShapes Go.ChangeAt Go.RowKit

theorem neq_TF : (wF.toList == wT.toList) = false := by kernel_rfl
theorem neq_UF : (wF.toList == wU.toList) = false := by kernel_rfl
theorem neq_UT : (wT.toList == wU.toList) = false := by kernel_rfl

theorem ret_bool {a b : Bool} (h : a = b) : Ending.returned (.bool a) = .returned (.bool b) := by rw [h]
theorem parse_nm (a : Int) (w : World) (hN : Named w) : Calls Tryd.prog 7 #[.string (nm a)] w fun e w' => e = .returned (.tuple #[.int .i64 (kn a), .int .i64 0]) ∧ w = w' := by
  rcases kn_cases a with ha | ha | ha
  · rw [show nm a = wF by unfold nm; rw [ha]; rfl, ha]
    exact parse_F wF w hN (by simp)
  · rw [show nm a = wT by unfold nm; rw [ha]; rfl, ha]
    exact parse_T wT w hN neq_TF (by simp)
  · rw [show nm a = wU by unfold nm; rw [ha]; rfl, ha]
    exact parse_U wU w hN neq_UF neq_UT (by simp)

theorem format_any (a : Int) (w : World) (hN : Named w) : Calls Tryd.prog 5 #[.int .i64 a] w fun e w' => e = .returned (.string (nm a)) ∧ w = w' := format_is a _ w hN rfl
theorem name_any (a : Int) (w : World) : Calls Tryd.prog 6 #[.int .i64 a] w fun e w' => e = .returned (.string (nm a)) ∧ w = w' := name_is a _ w rfl

theorem wF_list : wF.toList = [70, 65, 76, 83, 69] := by kernel_rfl
theorem wT_list : wT.toList = [84, 82, 85, 69] := by kernel_rfl
theorem wU_list : wU.toList = [85, 78, 75, 78, 79, 87, 78] := by kernel_rfl
theorem turn_no {x y l : List UInt8} (hx : x = l) (h : (x == y) = false) : (y == l) = false ∧ ¬ y = l := by
  subst hx; simp only [beq_eq_false_iff_ne, ne_eq] at *; exact ⟨fun e => h e.symm, fun e => h e.symm⟩
theorem turn_yes {x y l : List UInt8} (hx : x = l) (h : (x == y) = true) : (y == l) = true ∧ y = l := by
  subst hx; simp only [beq_iff_eq] at *; exact ⟨h.symm, h.symm⟩
theorem format_k (k : Int) (s : ByteArray) (h : nm k = s) (w : World) (hN : Named w) : Calls Tryd.prog 5 #[.int .i64 k] w fun e w' => e = .returned (.string s) ∧ w = w' := format_is k s w hN h

set_option maxHeartbeats 2000000 in
theorem text_walk (a : Int) (s : ByteArray) (w : World) (hN : Named w) : Calls Tryd.prog 3 #[.int .i64 a, .string s] w fun e w' => e = .returned (.bool true) ∧ w = w' := by
  have HN := Lib.hid hN
  clear hN
  cases hF : (wF.toList == s.toList)
  · obtain ⟨f1, f2⟩ := turn_no wF_list hF
    cases hT : (wT.toList == s.toList)
    · obtain ⟨t1, t2⟩ := turn_no wT_list hT
      cases hU : (wU.toList == s.toList)
      · obtain ⟨u1, u2⟩ := turn_no wU_list hU
        have PS := Lib.hid (fun w h => parse_none s w h hF hT hU)
        have FZ := Lib.hid (format_k 0 wF rfl)
        go_enter Tryd.func3, Tryd.ntmps3
        go_wp2_with (first | (go_at_call 4; refine (awake_any _).mono ?_; rintro e w' ⟨rfl, rfl⟩) | (go_at_call 5; first | ((with_reducible refine (format_any a _ HN.out).mono ?_); rintro e w' ⟨rfl, rfl⟩) | ((with_reducible refine (FZ.out _ HN.out).mono ?_); rintro e w' ⟨rfl, rfl⟩)) | (go_at_call 6; refine (name_any a _).mono ?_; rintro e w' ⟨rfl, rfl⟩) | (go_at_call 7; first | ((with_reducible refine (parse_nm a _ HN.out).mono ?_); rintro e w' ⟨rfl, rfl⟩) | ((with_reducible refine (PS.out _ HN.out).mono ?_); rintro e w' ⟨rfl, rfl⟩)) | (go_at_call 8; refine (value_is a _ _ rfl).mono ?_; rintro e w' ⟨rfl, rfl⟩))
        go_ret
        exact ⟨rfl, rfl⟩
      · obtain ⟨u1, u2⟩ := turn_yes wU_list hU
        have PS := Lib.hid (fun w h => parse_U s w h hF hT hU)
        have FZ := Lib.hid (format_k 2 wU rfl)
        go_enter Tryd.func3, Tryd.ntmps3
        go_wp2_with (first | (go_at_call 4; refine (awake_any _).mono ?_; rintro e w' ⟨rfl, rfl⟩) | (go_at_call 5; first | ((with_reducible refine (format_any a _ HN.out).mono ?_); rintro e w' ⟨rfl, rfl⟩) | ((with_reducible refine (FZ.out _ HN.out).mono ?_); rintro e w' ⟨rfl, rfl⟩)) | (go_at_call 6; refine (name_any a _).mono ?_; rintro e w' ⟨rfl, rfl⟩) | (go_at_call 7; first | ((with_reducible refine (parse_nm a _ HN.out).mono ?_); rintro e w' ⟨rfl, rfl⟩) | ((with_reducible refine (PS.out _ HN.out).mono ?_); rintro e w' ⟨rfl, rfl⟩)) | (go_at_call 8; refine (value_is a _ _ rfl).mono ?_; rintro e w' ⟨rfl, rfl⟩))
        go_ret
        exact ⟨ret_bool (by rw [wU_list]; rfl), rfl⟩
    · obtain ⟨t1, t2⟩ := turn_yes wT_list hT
      have PS := Lib.hid (fun w h => parse_T s w h hF hT)
      have FZ := Lib.hid (format_k 1 wT rfl)
      go_enter Tryd.func3, Tryd.ntmps3
      go_wp2_with (first | (go_at_call 4; refine (awake_any _).mono ?_; rintro e w' ⟨rfl, rfl⟩) | (go_at_call 5; first | ((with_reducible refine (format_any a _ HN.out).mono ?_); rintro e w' ⟨rfl, rfl⟩) | ((with_reducible refine (FZ.out _ HN.out).mono ?_); rintro e w' ⟨rfl, rfl⟩)) | (go_at_call 6; refine (name_any a _).mono ?_; rintro e w' ⟨rfl, rfl⟩) | (go_at_call 7; first | ((with_reducible refine (parse_nm a _ HN.out).mono ?_); rintro e w' ⟨rfl, rfl⟩) | ((with_reducible refine (PS.out _ HN.out).mono ?_); rintro e w' ⟨rfl, rfl⟩)) | (go_at_call 8; refine (value_is a _ _ rfl).mono ?_; rintro e w' ⟨rfl, rfl⟩))
      go_ret
      exact ⟨ret_bool (by rw [wT_list]; rfl), rfl⟩
  · obtain ⟨f1, f2⟩ := turn_yes wF_list hF
    have PS := Lib.hid (fun w h => parse_F s w h hF)
    have FZ := Lib.hid (format_k 0 wF rfl)
    go_enter Tryd.func3, Tryd.ntmps3
    go_wp2_with (first | (go_at_call 4; refine (awake_any _).mono ?_; rintro e w' ⟨rfl, rfl⟩) | (go_at_call 5; first | ((with_reducible refine (format_any a _ HN.out).mono ?_); rintro e w' ⟨rfl, rfl⟩) | ((with_reducible refine (FZ.out _ HN.out).mono ?_); rintro e w' ⟨rfl, rfl⟩)) | (go_at_call 6; refine (name_any a _).mono ?_; rintro e w' ⟨rfl, rfl⟩) | (go_at_call 7; first | ((with_reducible refine (parse_nm a _ HN.out).mono ?_); rintro e w' ⟨rfl, rfl⟩) | ((with_reducible refine (PS.out _ HN.out).mono ?_); rintro e w' ⟨rfl, rfl⟩)) | (go_at_call 8; refine (value_is a _ _ rfl).mono ?_; rintro e w' ⟨rfl, rfl⟩))
    go_ret
    exact ⟨ret_bool (by rw [wF_list]; rfl), rfl⟩
end Go.Proofs.YtigjijoaadilfaaDoor
