/- Division by zero, and the comparison of integers. -/
import Derived.Test.YtndkcimdbidgaaaDoorBdq
import Derived.Test.YtndkcimdbidgaaaDoorBsi
import Derived.Test.YtndkcimdbidgaaaDoorBcm
import Derived.Deep.Cut
namespace Go.Proofs.YtndkcimdbidgaaaDoor
open Go.ChangeShapes Go.WideShapes Go.ChangeAt Go.RowKit Go.ChangeMaps

set_option maxRecDepth 100000 in
set_option maxHeartbeats 4000000 in
theorem DivFloor_zero (a b : Value) (z1 : Int) (N1 N2 : Nat) (w : World) (ha : BG w a z1 N1) (hb : BG w b 0 N2) : Calls Tryd.prog 35 #[a, b] w fun e w' => e = .returned (.tuple #[.agg #[.bool false, .slice none 0 0], .agg #[.bool false, .slice none 0 0], .bool false]) ∧ Below w.heap.size w w' := by
  obtain ⟨na, A, n, c, D, rfl, hd1, hs1, hn1, hz1⟩ := ha
  obtain ⟨nb, A2, m, c2, E, rfl, hd2, hs2, hn2, hz2⟩ := hb
  have hE0 : dv 4294967296 E = 0 := by have := sgn_abs nb (dv 4294967296 E); rw [← hz2] at this; simpa using this.symm
  obtain ⟨W0, hW0⟩ : ∃ W, W = (((w.alloc (.cells #[.bool na, .slice A n c] 24)).alloc (.cells #[.bool nb, .slice A2 m c2] 24)).alloc (.cells #[.bool false, .slice none 0 0] 24)).alloc (.cells #[.bool false, .slice none 0 0] 24) := ⟨_, rfl⟩
  have HB := Lib.hid (show Below w.heap.size w W0 by rw [hW0]; exact ((((Below.refl _ w).alloc (Nat.le_refl _) _).alloc (by simp) _).alloc (by simp; omega) _).alloc (by simp; omega) _)
  have K3 := Lib.hid (show Blk W0 (w.heap.size + 1) 24 #[.bool nb, .slice A2 m c2] by rw [hW0]; exact ((Blk.new_ (by simp) rfl : Blk ((w.alloc _).alloc _) _ _ _).alloc _).alloc _)
  have K4 := Lib.hid (show Blk W0 (w.heap.size + 1 + 1) 24 #[.bool false, .slice none 0 0] by rw [hW0]; exact (Blk.new_ (by simp) rfl : Blk (((w.alloc _).alloc _).alloc _) _ _ _).alloc _)
  have K5 := Lib.hid (show Blk W0 (w.heap.size + 1 + 1 + 1) 24 #[.bool false, .slice none 0 0] by rw [hW0]; exact Blk.new_ (by simp) rfl)
  have CT := Lib.hid (trim_any A2 m c2 E W0 (hd2.below HB.out) hs2)
  have K3_0 : W0.cell? ⟨w.heap.size + 1, 0, none⟩ = some (.bool nb) := K3.out.cell 0
  have K3_1 : W0.cell? ⟨w.heap.size + 1, 1, none⟩ = some (.slice A2 m c2) := K3.out.cell 1
  have HE := Lib.hid hE0
  have HLE := Lib.hid hd2.1
  clear hd1 hd2 hs1 hs2 hz1 hz2 hE0
  go_enter Tryd.func35, Tryd.ntmps35
  go_upto_region 1 with fail
  rw [← hW0]
  clear hW0
  go_wp2_with fail
  refine CT.out.mono ?_
  rintro e w1 ⟨k, rfl, ht, hy⟩
  replace hy := hy.symm
  subst hy
  obtain rfl : k = 0 := by
    have h1 := nmz_zero (B := 4294967296) (by decide) (E.take k) ht.nmz
    rw [ht.dv, HE.out] at h1
    have h2 := congrArg List.length (h1.1 rfl)
    rw [List.length_take, List.length_nil] at h2
    have := ht.1
    omega
  clear ht CT K3_0 K3_1
  obtain ⟨W1, hW1⟩ : ∃ W, W = W0.setRow (w.heap.size + 1 + 1) #[.bool false, .slice none 0 0] := ⟨_, rfl⟩
  have M4 := Lib.hid (show Blk W1 (w.heap.size + 1 + 1) 24 #[.bool false, .slice none 0 0] by rw [hW1]; exact K4.out.setRow)
  have M5 := Lib.hid (show Blk W1 (w.heap.size + 1 + 1 + 1) 24 #[.bool false, .slice none 0 0] by rw [hW1]; exact (setRow_other W0 _ _ _ (by omega)).trans K5.out)
  have HB1 := Lib.hid (show Below w.heap.size w W1 by rw [hW1]; exact HB.out.grown (grown_row _ _ _) HB.out.size (fun j hj => by injection hj with hj; omega))
  have M4' := Lib.hid (show Blk (W1.setRow (w.heap.size + 1 + 1 + 1) #[.bool false, .slice none 0 0]) (w.heap.size + 1 + 1) 24 #[.bool false, .slice none 0 0] from (setRow_other W1 _ _ _ (by omega)).trans M4.out)
  go_wp2_with (first | ((refine wpList_store_row (o := ⟨none, _, _, _, _, _⟩) rfl 24 _ _ rfl (w.heap.size + 1 + 1) #[.bool false, .slice none 0 0] rfl rfl 24 _ K4.out (by kernel_rfl) rfl (by simp [Value.oneCell']) ?_); rw [← hW1]; clear hW1) | (refine wpList_store_row (o := ⟨none, _, _, _, _, _⟩) rfl 24 _ _ rfl (w.heap.size + 1 + 1 + 1) #[.bool false, .slice none 0 0] rfl rfl 24 _ M5.out (by kernel_rfl) rfl (by simp [Value.oneCell']) ?_))
  refine bodyPost_ret (results_c3 rfl _ _ _ (w.heap.size + 1 + 1) (w.heap.size + 1 + 1 + 1) _ _ rfl rfl (load24 M4'.out rfl) (load24 (M5.out.setRow (ds := #[.bool false, .slice none 0 0])) rfl)) rfl ?_
  exact ⟨rfl, HB1.out.grown (grown_row _ _ _) HB1.out.size (fun j hj => by injection hj with hj; omega)⟩
end Go.Proofs.YtndkcimdbidgaaaDoor
