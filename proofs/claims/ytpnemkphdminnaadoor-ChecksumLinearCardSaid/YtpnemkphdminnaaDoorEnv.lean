/- The tables of the library and of the package, as laid. -/
import Derived.Test.YtpnemkphdminnaaDoorAwk
import Derived.Test.YtpnemkphdminnaaDoorLws
import Derived.Stop.LaidErr
import Derived.Lib.LaidTab
namespace Go.Proofs.YtpnemkphdminnaaDoor
open Go.ChangeShapes Go.WideShapes Go.ChangeAt Go.RowKit Go.ChangeMaps

theorem env_of {W : World} (hL : laidMetH Tryd.prog Rows.checksumSumRow.laid W) : Env2 W := by
  rw [MakeChecks.laidMetH_plain _ _ _ (by kernel_rfl)] at hL
  have h1 : Lib.TabIs Tryd.prog W "disjoint/checksum.steps" .u64 [0, 9051005139383707209, 18102010278767414418, 9704381199536204507, 7257036000092981153, 1814259000023245288, 11493583972846619443, 16292555063049989498, 14514072000185962306, 13040162471224305931, 3628518000046490576, 5746791986423309721, 12527462061959317731, 15006518869663149738, 6263731030979658865, 3131865515489829432] :=
    Lib.tabIs_of_head (g := 0) (t := 42) (e := 24) (n := 16) (by kernel_rfl) (by kernel_rfl) (by kernel_rfl) (by kernel_rfl) (by kernel_rfl) (by kernel_rfl) hL.tail.tail.tail
  have h2 : Lib.TabIs Tryd.prog W "math/bits.deBruijn64tab" .u8 [0, 1, 56, 2, 57, 49, 28, 3, 61, 58, 42, 50, 38, 29, 17, 4, 62, 47, 59, 36, 45, 43, 51, 22, 53, 39, 33, 30, 24, 18, 12, 5, 63, 55, 48, 27, 60, 41, 37, 16, 46, 35, 44, 21, 52, 32, 23, 11, 54, 26, 40, 15, 34, 20, 31, 10, 25, 14, 19, 9, 13, 8, 7, 6] :=
    Lib.tabIs_of_head (g := 4) (t := 82) (e := 5) (n := 64) (by kernel_rfl) (by kernel_rfl) (by kernel_rfl) (by kernel_rfl) (by kernel_rfl) (by kernel_rfl) hL.tail
  refine ⟨⟨fun i hi => ?_, ?_⟩, ?_⟩
  · rw [h1.cell (by kernel_rfl) i (by simpa using hi)]
    have := (show ∀ i : Fin 16, ([0, 9051005139383707209, 18102010278767414418, 9704381199536204507, 7257036000092981153, 1814259000023245288, 11493583972846619443, 16292555063049989498, 14514072000185962306, 13040162471224305931, 3628518000046490576, 5746791986423309721, 12527462061959317731, 15006518869663149738, 6263731030979658865, 3131865515489829432] : List Int).getD i.val 0 = ((cT i.val : Nat) : Int) by decide +kernel) ⟨i, hi⟩
    rw [this]
  · have c := h1.cell (show Tryd.prog.globalNamed "disjoint/checksum.steps" = some 0 by kernel_rfl) 0 (by decide)
    exact Nat.lt_of_le_of_lt (Nat.zero_le _) (block_lt_of_cell c)
  · rw [h2.cell (by kernel_rfl) 15 (by decide)]; rfl
end Go.Proofs.YtpnemkphdminnaaDoor
