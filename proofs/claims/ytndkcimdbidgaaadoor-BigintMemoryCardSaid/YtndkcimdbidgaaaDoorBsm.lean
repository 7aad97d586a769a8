/- Integers alike, and small. -/
import Derived.Test.YtndkcimdbidgaaaDoorBof
import Derived.Test.YtndkcimdbidgaaaDoorMix
import Derived.Deep.Cut
import Derived.BigQuiet
namespace Go.Proofs.YtndkcimdbidgaaaDoor
open Go.ChangeShapes Go.WideShapes Go.ChangeAt Go.RowKit Go.ChangeMaps

set_option maxRecDepth 100000 in
set_option maxHeartbeats 4000000 in
theorem Same_any (na : Bool) (A : Option Addr) (n c : Nat) (D : List Nat) (A2 : Option Addr) (c2 : Nat) (w : World) (h : DG w A n D) (h2 : DG w A2 n D) (hn : n ≤ 100000) :
    Calls Tryd.prog 18 #[.agg #[.bool na, .slice A n c], .agg #[.bool na, .slice A2 n c2]] w fun e w' => e = .returned (.bool true) ∧ Below w.heap.size w w' := by
  obtain ⟨W0, hW0⟩ : ∃ W, W = (w.alloc (.cells #[.bool na, .slice A n c] 24)).alloc (.cells #[.bool na, .slice A2 n c2] 24) := ⟨_, rfl⟩
  have HB := Lib.hid (show Below w.heap.size w W0 by rw [hW0]; exact ((Below.refl _ w).alloc (Nat.le_refl _) _).alloc (by simp) _)
  have K2 := Lib.hid (show Blk W0 w.heap.size 24 #[.bool na, .slice A n c] by rw [hW0]; exact (Blk.new _ _ _).alloc _)
  have K3 := Lib.hid (show Blk W0 (w.heap.size + 1) 24 #[.bool na, .slice A2 n c2] by rw [hW0]; exact Blk.new_ (by simp) rfl)
  have K2_0 : W0.cell? ⟨w.heap.size, 0, none⟩ = some (.bool na) := K2.out.cell 0
  have K2_1 : W0.cell? ⟨w.heap.size, 1, none⟩ = some (.slice A n c) := K2.out.cell 1
  have K3_0 : W0.cell? ⟨w.heap.size + 1, 0, none⟩ = some (.bool na) := K3.out.cell 0
  have K3_1 : W0.cell? ⟨w.heap.size + 1, 1, none⟩ = some (.slice A2 n c2) := K3.out.cell 1
  have HA := Lib.hid (h.below HB.out).at
  have HA2 := Lib.hid (h2.below HB.out).at
  have HL := Lib.hid h.1
  have hbb : (na != na) = false := by simp
  have hbb' : (na == na) = true := by simp
  clear h h2
  go_enter Tryd.func18, Tryd.ntmps18
  go_upto_region 1 with fail
  rw [← hW0]
  clear hW0
  go_wp2
  clear K2_0 K2_1 K3_0 K3_1 hbb hbb'
  go_loopw [5] (fun s5 wr => ∃ k : Nat, s5 = .int .i64 (k : Int) ∧ k ≤ n ∧ Below W0.heap.size W0 wr) (fun s5 _ => n - (intOf s5).toNat)
  case atStart => exact ⟨0, rfl, Nat.zero_le _, Below.refl _ _⟩
  case round =>
    obtain ⟨k, rfl, hkn, hb⟩ := hrel
    have HB2 := Lib.hid hb
    have K2_1 : wr.cell? ⟨w.heap.size, 1, none⟩ = some (.slice A n c) := (K2.out.below hb).cell 1
    have K3_1 : wr.cell? ⟨w.heap.size + 1, 1, none⟩ = some (.slice A2 n c2) := (K3.out.below hb).cell 1
    clear hb
    by_cases hk : k = n
    · subst hk
      have hlt : ¬ ((k : Int) < (k : Int)) := by omega
      go_wp2
      go_ret
      exact ⟨rfl, HB.out.trans (HB2.out.mono HB.out.size)⟩
    · have hlt : (k : Int) < (n : Int) := by omega
      have hlt0 : (0 : Int) ≤ (k : Int) := by omega
      obtain ⟨b, off, rfl, hbl, hc⟩ := HA.out (by omega)
      obtain ⟨b2, off2, rfl, hbl2, hc2⟩ := HA2.out (by omega)
      obtain ⟨d, hd⟩ : ∃ d, D[k]? = some d := ⟨_, List.getElem?_eq_getElem (by have := HL.out; omega)⟩
      have c0 := hc wr HB2.out k d hd
      have c1 := hc2 wr HB2.out k d hd
      clear hc hc2 hd
      have hdd : ((d : Int) != (d : Int)) = false := by simp
      go_wp2
      go_quiet (fail)
      have HBQ := Lib.hid (below_drewN (n := nq) HB2.out)
      go_wp2
      go_roundw
      case rel => exact ⟨k + 1, by go_num, by omega, HBQ.out⟩
      case measure => simp only [intOf]; omega
set_option maxRecDepth 100000 in
set_option maxHeartbeats 4000000 in
theorem Small_any (na : Bool) (A : Option Addr) (n c : Nat) (w : World) : Calls Tryd.prog 44 #[.agg #[.bool na, .slice A n c]] w fun e w' => e = .returned (.bool (decide ((n : Int) ≤ 8))) ∧ Below w.heap.size w w' := by
  go_enter Tryd.func44, Tryd.ntmps44
  go_wp2_with fail
  go_ret
  exact ⟨rfl, (Below.refl _ w).alloc (Nat.le_refl _) _⟩
end Go.Proofs.YtndkcimdbidgaaaDoor
