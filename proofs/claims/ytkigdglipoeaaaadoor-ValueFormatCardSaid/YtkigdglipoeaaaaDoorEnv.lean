/- The tables of the library, as laid; and literals. -/
import Derived.Test.YtkigdglipoeaaaaDoorEqv
import Derived.Test.YtkigdglipoeaaaaDoorVvd
import Derived.Lib.AppendIntMem
import Derived.Lib.SplitLaws
import Derived.Stop.LaidErr
import Derived.Lib.ItoaLen
namespace Go.Proofs.YtkigdglipoeaaaaDoor
open Go.ChangeShapes Go.WideShapes Go.ChangeAt Go.RowKit Go.ChangeMaps

/-- What the library reads. -/
structure Env (w : World) : Prop where
  tab : Lib.TabIs Tryd.prog w "internal/strconv.uint64pow10" .u64 Lib.pow10Tab
  max : ∃ m, w.cell? ⟨0, 0, none⟩ = some (.int .i64 m)
theorem Env.below {w w' : World} (h : Env w) (hb : Below w.heap.size w w') : Env w' :=
  ⟨Joins.tab_stays (g := 1) (by kernel_rfl) h.tab hb (Nat.le_refl _), h.max.imp fun _ hm => keepcell hb hm⟩
theorem env_of {W : World} (hL : laidMetH Tryd.prog Rows.valueCompareRow.laid W) (hsh : W.ShapedOpen Tryd.prog) : Env W := by
  rw [MakeChecks.laidMetH_plain _ _ _ (by kernel_rfl)] at hL
  exact ⟨Lib.tabIs_of_head (g := 1) (t := 88) (e := 59) (n := 20) (by kernel_rfl) (by kernel_rfl) (by kernel_rfl) (by kernel_rfl) (by kernel_rfl) (by kernel_rfl) hL.tail.tail,
    cell_of_shapedOpen_int (zero := #[.int .i64 0]) (t := 3) hsh (of_decide_eq_true (by kernel_rfl)) (by kernel_rfl) rfl (by kernel_rfl) (by kernel_rfl) Tryd.underlying3⟩

/-- The literal of a value. -/
def fmtV (x : V3) : List UInt8 :=
  if x.valid = false then [] else if x.k = 1 then Lib.itoa x.n else if x.k = 2 then 39 :: (Lib.replaceAll x.s.data.toList [39] [39, 39] ++ [39]) else [78, 85, 76, 76]
end Go.Proofs.YtkigdglipoeaaaaDoor
