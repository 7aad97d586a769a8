/- The tables of the library, as laid. -/
import Derived.Test.YthageombfifffaaDoorAwk
import Derived.Test.YthageombfifffaaDoorLws
import Derived.Stop.LaidErr
namespace Go.Proofs.YthageombfifffaaDoor
open Go.ChangeShapes Go.WideShapes Go.ChangeAt Go.RowKit Go.ChangeMaps

theorem env_of {W : World} (hL : laidMetH Tryd.prog Rows.scheduleValidRow.laid W) : Env W := by
  rw [MakeChecks.laidMetH_plain _ _ _ (by kernel_rfl)] at hL
  exact ⟨Lib.tabIs_of_head (g := 3) (t := 107) (e := 33) (n := 20) (by kernel_rfl) (by kernel_rfl) (by kernel_rfl) (by kernel_rfl) (by kernel_rfl) (by kernel_rfl) hL.tail.tail⟩
theorem env_of7 {W : World} (hL : laidMetH Tryd.prog Rows.scheduleFormatRow.laid W) : Env W := by
  rw [MakeChecks.laidMetH_plain _ _ _ (by kernel_rfl)] at hL
  exact ⟨Lib.tabIs_of_head (g := 3) (t := 107) (e := 33) (n := 20) (by kernel_rfl) (by kernel_rfl) (by kernel_rfl) (by kernel_rfl) (by kernel_rfl) (by kernel_rfl) hL.tail.tail⟩
end Go.Proofs.YthageombfifffaaDoor
