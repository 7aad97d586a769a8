/- Law ScheduleFormat: the walk. -/
import Derived.Test.YthageombfifffaaDoorRpa
namespace Go.Proofs.YthageombfifffaaDoor
open Go.ChangeShapes Go.WideShapes Go.ChangeAt Go.RowKit Go.ChangeMaps

set_option maxRecDepth 100000 in
set_option maxHeartbeats 1000000 in
theorem scheduleFormat_walk (A : Option Addr) (n c : Nat) (R : List Act) (w : World) (k0 : Acts w A n R) (l0 : n ≤ 9223372036854775807) (g0 : ∀ x ∈ R, x.ok) (hE : EnvQ w) :
    Calls Tryd.prog 8 #[.slice A n c] w fun e w' => e = .returned (.bool true) ∧ Below w.heap.size w w' := by
  have HE := Lib.hid hE
  have AW := Lib.hid (fun w h => awake_any w h)
  have HR := Lib.hid k0
  clear k0 hE
  by_cases h300 : 300 < n
  · go_enter Tryd.func8, Tryd.ntmps8
    go_wp2_with fail
    refine (AW.out _ HE.out.env).mono ?_
    rintro e w1 ⟨rfl, hb1⟩
    have B1 := Lib.hid hb1
    clear hb1
    go_wp2_with fail
    refine (AW.out _ (HE.out.below B1.out).env).mono ?_
    rintro e w2 ⟨rfl, hb2⟩
    have B2 := Lib.hid (more_below B1.out hb2)
    clear hb2
    go_wp2
    go_ret
    exact ⟨rfl, B2.out⟩
  have V' := fun w h => rValid_any A n c R 8 w h l0
  rcases hv : (R.all fun a => vA a 8) with _ | _
  · simp only [hv] at V'
    have V' := Lib.hid V'
    have FN := Lib.hid (fun w h => Format_no A n c R w h l0 hv)
    go_enter Tryd.func8, Tryd.ntmps8
    go_wp2_with fail
    refine (AW.out _ HE.out.env).mono ?_
    rintro e w1 ⟨rfl, hb1⟩
    have B1 := Lib.hid hb1
    clear hb1
    go_wp2_with fail
    refine (FN.out _ (HR.out.below B1.out)).mono ?_
    rintro e w2 ⟨rfl, hb2⟩
    have B2 := Lib.hid (more_below B1.out hb2)
    clear hb2
    go_wp2_with fail
    refine (V'.out _ (HR.out.below B2.out)).mono ?_
    rintro e w3 ⟨rfl, hb3⟩
    have B3 := Lib.hid (more_below B2.out hb3)
    clear hb3
    go_wp2
    go_ret
    exact ⟨rfl, B3.out⟩
  · simp only [hv] at V'
    have V' := Lib.hid V'
    have FY := fun w hE h => Format_yes A n c R w hE h (by omega) g0 hv
    have RF := fun w h => rFormat_any A n c R w h (by omega) g0 hv
    have hfl := fmtL_len R g0
    rw [HR.out.1] at hfl
    obtain ⟨T, hT⟩ : ∃ T : ByteArray, (⟨(fmtL R).toArray⟩ : ByteArray) = T := ⟨_, rfl⟩
    have hTd : T.data.toList = fmtL R := by rw [← hT]
    have hTl : T.data.toList.length = T.size := by simp
    rw [hTd] at hTl
    have PA := fun w h => Parse_any T w (by omega) h
    rw [hTd, prs_fmt R T.size [] (by omega) hv, List.nil_append] at PA
    have PA : ∀ w, EnvQ w → Calls Tryd.prog 20 #[.string T] w fun e w' => ∃ A c, e = .returned (.tuple #[.slice A R.length c, .int .i64 0, .int .i64 0]) ∧ Acts w' A R.length R ∧ Below w.heap.size w w' := PA
    simp only [hT] at FY RF
    rw [HR.out.1] at PA
    have PA := Lib.hid PA
    have FY := Lib.hid FY
    have RF := Lib.hid RF
    clear hT hTd hTl hfl
    go_enter Tryd.func8, Tryd.ntmps8
    go_wp2_with fail
    refine (AW.out _ HE.out.env).mono ?_
    rintro e w1 ⟨rfl, hb1⟩
    have B1 := Lib.hid hb1
    clear hb1
    go_wp2_with fail
    refine (FY.out _ (HE.out.below B1.out).env (HR.out.below B1.out)).mono ?_
    rintro e w2 ⟨rfl, hb2⟩
    have B2 := Lib.hid (more_below B1.out hb2)
    clear hb2
    go_wp2_with fail
    refine (V'.out _ (HR.out.below B2.out)).mono ?_
    rintro e w3 ⟨rfl, hb3⟩
    have B3 := Lib.hid (more_below B2.out hb3)
    clear hb3
    go_wp2_with fail
    refine (PA.out _ (HE.out.below B3.out)).mono ?_
    rintro e w4 ⟨A', c', rfl, ha', hb4⟩
    have B4 := Lib.hid (more_below B3.out hb4)
    have HA := Lib.hid ha'
    clear hb4 ha'
    go_wp2_with fail
    refine (RF.out _ (HR.out.below B4.out)).mono ?_
    rintro e w5 ⟨rfl, hb5⟩
    have B5 := Lib.hid (more_below B4.out hb5)
    have SA := Lib.hid (Same_any A' n c' A c R w5 (HA.out.below hb5) (HR.out.below B5.out) l0)
    clear hb5 HA
    go_wp2_with fail
    refine SA.out.mono ?_
    rintro e w6 ⟨rfl, hb6⟩
    have B6 := Lib.hid (more_below B5.out hb6)
    clear hb6
    go_wp2
    go_ret
    exact ⟨rfl, B6.out⟩
end Go.Proofs.YthageombfifffaaDoor
