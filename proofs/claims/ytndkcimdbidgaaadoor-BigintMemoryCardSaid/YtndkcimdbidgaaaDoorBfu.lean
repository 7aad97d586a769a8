/- The decimal text of a small number. -/
import Derived.Test.YtndkcimdbidgaaaDoorBlk
import Derived.Test.YtndkcimdbidgaaaDoorShelf
namespace Go.Proofs.YtndkcimdbidgaaaDoor
open Go.ChangeShapes Go.WideShapes Go.ChangeAt Go.RowKit Go.ChangeMaps

set_option maxRecDepth 100000 in
set_option maxHeartbeats 4000000 in
theorem FormatUint75_small (u : Nat) (hu : u < 100) (w : World) : Calls Tryd.prog 75 #[.int .u64 (u : Int), .int .i64 10] w fun e w' => e = .returned (.string ⟨(Lib.decDigits u).toArray⟩) ∧ w' = w := by
  have CS := Lib.hid (Tryd.internal_strconv_small u hu w)
  have h1 : (u : Int) < 100 := by omega
  go_enter Tryd.func75, Tryd.ntmps75
  go_wp2_with fail
  refine CS.out.mono ?_
  rintro e w1 ⟨rfl, hy⟩
  replace hy := hy.symm
  subst hy
  go_wp2
  go_ret
  exact ⟨rfl, rfl⟩
set_option maxRecDepth 100000 in
set_option maxHeartbeats 4000000 in
theorem FormatUint_small (u : Nat) (hu : u < 100) (w : World) : Calls Tryd.prog 61 #[.int .u64 (u : Int), .int .i64 10] w fun e w' => e = .returned (.string ⟨(Lib.decDigits u).toArray⟩) ∧ w' = w := by
  have CS := Lib.hid (FormatUint75_small u hu w)
  go_enter Tryd.func61, Tryd.ntmps61
  go_wp2_with fail
  refine CS.out.mono ?_
  rintro e w1 ⟨rfl, hy⟩
  replace hy := hy.symm
  subst hy
  go_wp2
  go_ret
  exact ⟨rfl, rfl⟩
end Go.Proofs.YtndkcimdbidgaaaDoor
