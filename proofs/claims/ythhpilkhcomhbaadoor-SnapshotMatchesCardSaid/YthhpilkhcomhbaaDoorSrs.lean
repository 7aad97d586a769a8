/- Reading a version; the tables of the package as laid. -/
import Derived.Test.YthhpilkhcomhbaaDoorSro
import Derived.Test.YthhpilkhcomhbaaDoorSwo
import Derived.Test.YthhpilkhcomhbaaDoorLws
import Derived.Stop.LaidErr
import Derived.Lib.LaidTab
namespace Go.Proofs.YthhpilkhcomhbaaDoor
open Go.ChangeShapes Go.WideShapes Go.ChangeAt Go.RowKit Go.ChangeMaps

theorem SRead_any (w : World) (p q : Nat) (s : St) (h : Dk w p q s) (hp : ¬ PQ p q 0) (hev : Env w) : Calls Tryd.prog 23 #[.pointer (some ⟨p, 0, none⟩)] w (GivesR w (SR s).1 (SR s).2.1 (SR s).2.2) := by
  by_cases hf : s.f = true
  · exact SRead_fail w p q s h hf
  · have hf : s.f = false := by simpa using hf
    by_cases hn7 : s.R.length < 7
    · exact SRead_small w p q s h hf hn7
    · have hn7 : 7 ≤ s.R.length := by omega
      have hl := lenOf_lt s
      rcases (show slotOf s = 0 ∨ slotOf s = 1 ∨ 1 < slotOf s by omega) with hs | hs | hs
      · by_cases he : epochOf s = 0
        · exact SRead_none0 w p q s h hf hn7 hs hl he
        · by_cases hle : 64 * areaOf s.R.length < lenOf s
          · exact SRead_long0 w p q s h hf hn7 hs hl he hle
          · exact SRead_ok0 w p q s h hp hev hf hn7 hs he (by omega)
      · by_cases he : epochOf s = 0
        · exact SRead_none1 w p q s h hf hn7 hs hl he
        · by_cases hle : 64 * areaOf s.R.length < lenOf s
          · exact SRead_long1 w p q s h hf hn7 hs hl he hle
          · exact SRead_ok1 w p q s h hp hev hf hn7 hs he (by omega)
      · exact SRead_slot w p q s h hf hn7 hs
theorem env_of {W : World} (hL : laidMetH Tryd.prog Rows.snapshotDivideRow.laid W) : Env W := by
  rw [MakeChecks.laidMetH_plain _ _ _ (by kernel_rfl)] at hL
  have h1 : Lib.TabIs Tryd.prog W "disjoint/checksum.steps" .u64 [0, 9051005139383707209, 18102010278767414418, 9704381199536204507, 7257036000092981153, 1814259000023245288, 11493583972846619443, 16292555063049989498, 14514072000185962306, 13040162471224305931, 3628518000046490576, 5746791986423309721, 12527462061959317731, 15006518869663149738, 6263731030979658865, 3131865515489829432] :=
    Lib.tabIs_of_head (g := 0) (t := 91) (e := 74) (n := 16) (by kernel_rfl) (by kernel_rfl) (by kernel_rfl) (by kernel_rfl) (by kernel_rfl) (by kernel_rfl) hL
  refine ⟨fun i hi => ?_, ?_⟩
  · rw [h1.cell (by kernel_rfl) i (by simpa using hi)]
    have := (show ∀ i : Fin 16, ([0, 9051005139383707209, 18102010278767414418, 9704381199536204507, 7257036000092981153, 1814259000023245288, 11493583972846619443, 16292555063049989498, 14514072000185962306, 13040162471224305931, 3628518000046490576, 5746791986423309721, 12527462061959317731, 15006518869663149738, 6263731030979658865, 3131865515489829432] : List Int).getD i.val 0 = ((cT i.val : Nat) : Int) by decide +kernel) ⟨i, hi⟩
    rw [this]
  · have c := h1.cell (show Tryd.prog.globalNamed "disjoint/checksum.steps" = some 0 by kernel_rfl) 0 (by decide)
    exact Nat.lt_of_le_of_lt (Nat.zero_le _) (block_lt_of_cell c)
end Go.Proofs.YthhpilkhcomhbaaDoor
