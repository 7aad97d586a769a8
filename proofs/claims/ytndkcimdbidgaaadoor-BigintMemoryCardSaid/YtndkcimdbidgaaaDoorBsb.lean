/- The difference of two integers. -/
import Derived.Test.YtndkcimdbidgaaaDoorBap
import Derived.Deep.Cut
namespace Go.Proofs.YtndkcimdbidgaaaDoor
open Go.ChangeShapes Go.WideShapes Go.ChangeAt Go.RowKit Go.ChangeMaps

theorem sgn_not (s : Bool) (x : Nat) : sgn (!s) x = - sgn s x := by cases s <;> simp [sgn]
set_option maxRecDepth 100000 in
set_option maxHeartbeats 4000000 in
theorem Sub_any (a b : Value) (z1 z2 : Int) (N1 N2 : Nat) (w : World) (ha : BG w a z1 N1) (hb : BG w b z2 N2) (hN1 : N1 ≤ 50000) (hN2 : N2 ≤ 50000) : Calls Tryd.prog 29 #[a, b] w fun e w' => ∃ v, e = .returned v ∧ NB w' w.heap.size v (z1 - z2) (max N1 N2 + 1) ∧ Below w.heap.size w w' := by
  obtain ⟨na, A, n, c, D, rfl, hd1, hs1, hn1, hz1⟩ := ha
  obtain ⟨nb, A2, m, c2, E, rfl, hd2, hs2, hn2, hz2⟩ := hb
  obtain ⟨W0, hW0⟩ : ∃ W, W = ((w.alloc (.cells #[.bool na, .slice A n c] 24)).alloc (.cells #[.bool (!nb), .slice A2 m c2] 24)).alloc (.cells #[.bool false, .slice none 0 0] 24) := ⟨_, rfl⟩
  have HB := Lib.hid (show Below w.heap.size w W0 by rw [hW0]; exact (((Below.refl _ w).alloc (Nat.le_refl _) _).alloc (by simp) _).alloc (by simp; omega) _)
  have K2 := Lib.hid (show Blk W0 w.heap.size 24 #[.bool na, .slice A n c] by rw [hW0]; exact ((Blk.new _ _ _).alloc _).alloc _)
  have K3 := Lib.hid (show Blk W0 (w.heap.size + 1) 24 #[.bool (!nb), .slice A2 m c2] by rw [hW0]; exact (Blk.new_ (by simp) rfl : Blk ((w.alloc _).alloc _) _ _ _).alloc _)
  have K4 := Lib.hid (show Blk W0 (w.heap.size + 1 + 1) 24 #[.bool false, .slice none 0 0] by rw [hW0]; exact Blk.new_ (by simp) rfl)
  obtain ⟨z, hz⟩ : ∃ z, z1 - z2 = z := ⟨_, rfl⟩
  rw [hz]
  have CA := Lib.hid (Add_any (.agg #[.bool na, .slice A n c]) (.agg #[.bool (!nb), .slice A2 m c2]) z1 (-z2) N1 N2 W0 ⟨_, _, _, _, D, rfl, hd1.below HB.out, hs1, hn1, hz1⟩ ⟨_, _, _, _, E, rfl, hd2.below HB.out, hs2, hn2, by rw [sgn_not, ← hz2]⟩ hN1 hN2)
  have HZZ := Lib.hid hz
  clear hd1 hd2 hs1 hs2 hz1 hz2 hz
  go_enter Tryd.func29, Tryd.ntmps29
  go_wp2_with fail
  rw [← hW0]
  refine CA.out.mono ?_
  rintro e w2 ⟨v, rfl, hv, hb⟩
  rw [show z1 + -z2 = z from by rw [← HZZ.out]; omega] at hv
  have HV := Lib.hid (hv.mono HB.out.size (Nat.le_refl _))
  have HB2 := Lib.hid (HB.out.trans (hb.mono HB.out.size))
  have HK2 := Lib.hid (K4.out.below hb)
  clear hb hv hW0
  obtain ⟨Ar, nr, cr, Dr, hevr, hor, hsr, hnr, hvr, hNr⟩ := HV.out
  obtain ⟨sbr, hsbr⟩ : ∃ b, b = decide (z < 0) := ⟨_, rfl⟩
  rw [← hsbr] at hevr
  subst hevr
  have HSBr := Lib.hid hsbr
  clear hsbr
  go_wp2_with ((refine wpList_store_row (o := ⟨none, _, _, _, _, _⟩) rfl 24 _ _ rfl (w.heap.size + 2) #[.bool sbr, .slice Ar nr cr] rfl rfl 24 _ HK2.out (by kernel_rfl) rfl (by simp [Value.oneCell']) ?_))
  refine bodyPost_ret (results_c1 rfl _ _ _ (w.heap.size + 2) _ rfl (load24 (HK2.out.setRow (ds := #[.bool sbr, .slice Ar nr cr])) rfl)) rfl ?_
  exact ⟨_, rfl, NB.row ⟨Ar, nr, cr, Dr, by rw [HSBr.out], hor, hsr, hnr, hvr, hNr⟩ HK2.out _, HB2.out.grown (grown_row w2 (w.heap.size + 2) _) HB2.out.size (fun j hj => by first | (injection hj with hj; omega) | omega | (cases hj; exact Nat.le_refl _))⟩
end Go.Proofs.YtndkcimdbidgaaaDoor
