/- Law ScheduleValid: the walk. -/
import Derived.Test.YthageombfifffaaDoorEnv
namespace Go.Proofs.YthageombfifffaaDoor
open Go.ChangeShapes Go.WideShapes Go.ChangeAt Go.RowKit Go.ChangeMaps

theorem nn_add (i : Int) (n : Nat) (h : 0 ≤ i) : i + n = ((i.toNat + n : Nat) : Int) := by omega
set_option maxRecDepth 100000 in
set_option maxHeartbeats 1000000 in
theorem scheduleValid_walk (A : Option Addr) (n c : Nat) (R : List Act) (s : Int) (w : World) (k0 : Acts w A n R) (l0 : n ≤ 9223372036854775807) (g0 : ∀ x ∈ R, x.ok) (l1 : -9223372036854775808 ≤ s) (g1 : s ≤ 9223372036854775807) (hE : Env w) :
    Calls Tryd.prog 7 #[.slice A n c, .int .i64 s] w fun e w' => e = .returned (.bool true) ∧ Below w.heap.size w w' := by
  have HE := Lib.hid hE
  have AW := Lib.hid (fun w h => awake_any w h)
  have V := Lib.hid (fun w h => Valid_any A n c R s w h l0)
  have V' := Lib.hid (fun w h => rValid_any A n c R s w h l0)
  have HR := Lib.hid k0
  clear k0 hE
  by_cases h300 : 300 < n
  · go_enter Tryd.func7, Tryd.ntmps7
    go_wp2_with fail
    refine (AW.out _ HE.out).mono ?_
    rintro e w1 ⟨rfl, hb1⟩
    have B1 := Lib.hid hb1
    clear hb1
    go_wp2_with fail
    refine (AW.out _ (HE.out.below B1.out)).mono ?_
    rintro e w2 ⟨rfl, hb2⟩
    have B2 := Lib.hid (more_below B1.out hb2)
    clear hb2
    go_wp2
    go_ret
    exact ⟨rfl, B2.out⟩
  · go_enter Tryd.func7, Tryd.ntmps7
    go_wp2_with fail
    refine (AW.out _ HE.out).mono ?_
    rintro e w1 ⟨rfl, hb1⟩
    have B1 := Lib.hid hb1
    clear hb1
    go_wp2_with fail
    refine (V.out _ (HR.out.below B1.out)).mono ?_
    rintro e w2 ⟨rfl, hb2⟩
    have B2 := Lib.hid (more_below B1.out hb2)
    clear hb2
    go_wp2_with fail
    refine (V'.out _ (HR.out.below B2.out)).mono ?_
    rintro e w3 ⟨rfl, hb3⟩
    have B3 := Lib.hid (more_below B2.out hb3)
    clear hb3
    go_wp2
    go_ret
    exact ⟨ret_bool (by simp), B3.out⟩
end Go.Proofs.YthageombfifffaaDoor
