/- Law ScheduleParse: the walk. -/
import Derived.Test.YthageombfifffaaDoorRpa
namespace Go.Proofs.YthageombfifffaaDoor
open Go.ChangeShapes Go.WideShapes Go.ChangeAt Go.RowKit Go.ChangeMaps

theorem errN_zero {n : Nat} (h : n = 0) : errN n = 0 := by unfold errN; rw [if_pos h]
theorem errN_pos {n : Nat} (h : n ≠ 0) : errN n = 2 := by unfold errN; rw [if_neg h]
set_option maxRecDepth 100000 in
set_option maxHeartbeats 1000000 in
theorem scheduleParse_walk (s : ByteArray) (w : World) (l0 : s.size ≤ 140737488351232) (hE : EnvQ w) :
    Calls Tryd.prog 9 #[.string s] w fun e w' => e = .returned (.bool true) ∧ Below w.heap.size w w' := by
  have HE := Lib.hid hE
  have AW := Lib.hid (fun w h => awake_any w h)
  clear hE
  by_cases h3 : 3000 < s.size
  · go_enter Tryd.func9, Tryd.ntmps9
    go_wp2_with fail
    refine (AW.out _ HE.out.env).mono ?_
    rintro e w1 ⟨rfl, hb1⟩
    have B1 := Lib.hid hb1
    clear hb1
    go_wp2_with fail
    refine (AW.out _ (HE.out.below B1.out).env).mono ?_
    rintro e w2 ⟨rfl, hb2⟩
    have B2 := Lib.hid (more_below B1.out hb2)
    clear hb2
    go_wp2
    go_ret
    exact ⟨rfl, B2.out⟩
  · have PA := fun w h => Parse_any s w (by omega) h
    have RP := fun w => rParse_any s w (by omega)
    have hl := (prs_len s.size s.data.toList []).1
    generalize prs s.size s.data.toList [] = V at *
    rcases V with ⟨R, z⟩
    have PA : ∀ w, EnvQ w → Calls Tryd.prog 20 #[.string s] w fun e w' => ∃ A c, e = .returned (.tuple #[.slice A R.length c, .int .i64 (z : Int), .int .i64 (errN z)]) ∧ Acts w' A R.length R ∧ Below w.heap.size w w' := PA
    have RP : ∀ w, Calls Tryd.prog 22 #[.string s] w fun e w' => ∃ A c, e = .returned (.tuple #[.slice A R.length c, .int .i64 (z : Int)]) ∧ Acts w' A R.length R ∧ Below w.heap.size w w' := RP
    have hl : R.length ≤ 3000 := by simp at hl; omega
    have PA := Lib.hid PA
    have RP := Lib.hid RP
    generalize hn : R.length = n at *
    clear hn
    have hz : (z = 0 ∧ errN z = 0) ∨ (z ≠ 0 ∧ errN z = 2) := by
      by_cases h : z = 0
      · exact .inl ⟨h, errN_zero h⟩
      · exact .inr ⟨h, errN_pos h⟩
    rcases hz with ⟨hz, he⟩ | ⟨hz, he⟩
    · rw [he] at PA
      subst hz
      clear he
      go_enter Tryd.func9, Tryd.ntmps9
      go_wp2_with fail
      refine (AW.out _ HE.out.env).mono ?_
      rintro e w1 ⟨rfl, hb1⟩
      have B1 := Lib.hid hb1
      clear hb1
      go_wp2_with fail
      refine (PA.out _ (HE.out.below B1.out)).mono ?_
      rintro e w2 ⟨A, c, rfl, ha, hb2⟩
      have B2 := Lib.hid (more_below B1.out hb2)
      have HA := Lib.hid ha
      clear hb2 ha
      go_wp2_with fail
      refine (RP.out _).mono ?_
      rintro e w3 ⟨A', c', rfl, ha', hb3⟩
      have B3 := Lib.hid (more_below B2.out hb3)
      have SA := Lib.hid (Same_any A n c A' c' R w3 (HA.out.below hb3) ha' (by omega))
      clear hb3 ha' HA
      go_wp2_with fail
      refine SA.out.mono ?_
      rintro e w4 ⟨rfl, hb4⟩
      have B4 := Lib.hid (more_below B3.out hb4)
      clear hb4
      go_wp2
      go_ret
      exact ⟨rfl, B4.out⟩
    · rw [he] at PA
      have q1 : ((z : Int) == 0) = false := by simpa using hz
      have q2 : decide (0 < (z : Int)) = true := decide_eq_true (by omega)
      have q3 : ¬ ((z : Int) = 0) := by omega
      have q4 : (z == 0) = false := by simpa using hz
      have q5 : decide (0 < z) = true := decide_eq_true (by omega)
      clear he
      go_enter Tryd.func9, Tryd.ntmps9
      go_wp2_with fail
      refine (AW.out _ HE.out.env).mono ?_
      rintro e w1 ⟨rfl, hb1⟩
      have B1 := Lib.hid hb1
      clear hb1
      go_wp2_with fail
      refine (PA.out _ (HE.out.below B1.out)).mono ?_
      rintro e w2 ⟨A, c, rfl, ha, hb2⟩
      have B2 := Lib.hid (more_below B1.out hb2)
      have HA := Lib.hid ha
      clear hb2 ha
      go_wp2_with fail
      refine (RP.out _).mono ?_
      rintro e w3 ⟨A', c', rfl, ha', hb3⟩
      have B3 := Lib.hid (more_below B2.out hb3)
      have SA := Lib.hid (Same_any A n c A' c' R w3 (HA.out.below hb3) ha' (by omega))
      clear hb3 ha' HA
      go_wp2_with fail
      refine SA.out.mono ?_
      rintro e w4 ⟨rfl, hb4⟩
      have B4 := Lib.hid (more_below B3.out hb4)
      clear hb4
      go_wp2
      go_ret
      exact ⟨ret_bool (by simp), B4.out⟩
end Go.Proofs.YthageombfifffaaDoor
