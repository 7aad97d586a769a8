/- The examples of the chapter come out as the chapter says. -/
import Derived.Test.YtndkcimdbidgaaaDoorBfm
import Derived.Test.YtndkcimdbidgaaaDoorBpa
import Derived.Test.YtndkcimdbidgaaaDoorBpb
import Derived.Test.YtndkcimdbidgaaaDoorBgc
import Derived.Test.YtndkcimdbidgaaaDoorBsm
namespace Go.Proofs.YtndkcimdbidgaaaDoor
open Go.ChangeShapes Go.WideShapes Go.ChangeAt Go.RowKit Go.ChangeMaps

set_option maxRecDepth 100000 in
set_option maxHeartbeats 4000000 in
theorem awake_any (w : World) (hE : EnvB w) : Calls Tryd.prog 13 #[] w fun e w' => e = .returned (.bool true) ∧ Below w.heap.size w w' := by
  have HB := Lib.hid (Below.refl w.heap.size w)
  have HE := Lib.hid hE
  clear hE
  have CP := Lib.hid (Parse_ok ⟨#[49, 56, 52, 52, 54, 55, 52, 52, 48, 55, 51, 55, 48, 57, 53, 53, 49, 54, 49, 54]⟩ ⟨#[49, 56, 52, 52, 54, 55, 52, 52, 48, 55, 51, 55, 48, 57, 53, 53, 49, 54, 49, 54]⟩ false w rfl rfl (by unfold decT; decide) (by decide) (by decide) (by decide))
  rw [show sgn false (nv (ByteArray.data ⟨#[49, 56, 52, 52, 54, 55, 52, 52, 48, 55, 51, 55, 48, 57, 53, 53, 49, 54, 49, 54]⟩).toList) = 18446744073709551616 from by decide +kernel] at CP
  go_enter Tryd.func13, Tryd.ntmps13
  go_wp2_with fail
  refine CP.out.mono ?_
  rintro e w1 ⟨v, rfl, hv, hb⟩
  have HV1 := Lib.hid hv
  clear hv CP
  replace HE := Lib.hid (HE.out.below hb)
  replace HB := Lib.hid (HB.out.trans (hb.mono HB.out.size))
  clear hb
  have NB1 := HV1
  obtain ⟨Ap, np, cp, Dp, hevp, hop, hsp, hnp, hvp, hNp⟩ := HV1.out
  obtain ⟨sbp, hsbp⟩ : ∃ b, b = decide ((18446744073709551616 : Int) < 0) := ⟨_, rfl⟩
  rw [← hsbp] at hevp
  subst hevp
  have HSBp := Lib.hid hsbp
  clear hsbp
  obtain rfl : sbp = false := by rw [HSBp.out]; decide
  clear HV1
  have DGp := Lib.hid hop.dg
  obtain ⟨W1, hW1⟩ : ∃ W, W = w1.alloc (.cells #[.bool false, .slice Ap np cp] 24) := ⟨_, rfl⟩
  have hbW1 : Below w1.heap.size w1 W1 := by rw [hW1]; exact ((Below.refl _ w1).alloc (by exact Nat.le_refl _) _)
  have Kp_ : Blk W1 (w1.heap.size) 24 #[.bool false, .slice Ap np cp] := by rw [hW1]; exact Blk.new _ _ _
  replace HE := Lib.hid (HE.out.below hbW1)
  replace NB1 := Lib.hid (NB1.out.below hbW1)
  replace DGp := Lib.hid (DGp.out.below hbW1)
  replace HB := Lib.hid (HB.out.trans (hbW1.mono HB.out.size))
  obtain ⟨gp, hgp⟩ : ∃ g, w1.heap.size = g := ⟨_, rfl⟩
  rw [hgp] at Kp_
  have Kp := Lib.hid Kp_
  clear Kp_
  have Hgp := Lib.hid hgp
  clear hgp
  clear hbW1
  have CP := Lib.hid (Parse_bad ⟨#[45, 48]⟩ ⟨#[48]⟩ true W1 rfl rfl (.inr ⟨rfl, rfl⟩) (by decide))
  go_wp2_with fail
  rw [← hW1]
  try rw [Hgp.out]
  clear hW1 Hgp
  refine CP.out.mono ?_
  rintro e x2 ⟨rfl, hb⟩
  clear CP
  replace HE := Lib.hid (HE.out.below hb)
  replace NB1 := Lib.hid (NB1.out.below hb)
  replace DGp := Lib.hid (DGp.out.below hb)
  replace Kp := Lib.hid (Kp.out.below hb)
  replace HB := Lib.hid (HB.out.trans (hb.mono HB.out.size))
  clear hb
  obtain ⟨W3, hW3⟩ : ∃ W, W = x2.alloc (.cells #[.bool false, .slice none 0 0] 24) := ⟨_, rfl⟩
  have hbW3 : Below x2.heap.size x2 W3 := by rw [hW3]; exact ((Below.refl _ x2).alloc (by exact Nat.le_refl _) _)
  have Kb_ : Blk W3 (x2.heap.size) 24 #[.bool false, .slice none 0 0] := by rw [hW3]; exact Blk.new _ _ _
  replace HE := Lib.hid (HE.out.below hbW3)
  replace NB1 := Lib.hid (NB1.out.below hbW3)
  replace DGp := Lib.hid (DGp.out.below hbW3)
  replace Kp := Lib.hid (Kp.out.below hbW3)
  replace HB := Lib.hid (HB.out.trans (hbW3.mono HB.out.size))
  obtain ⟨gb, hgb⟩ : ∃ g, x2.heap.size = g := ⟨_, rfl⟩
  rw [hgb] at Kb_
  have Kb := Lib.hid Kb_
  clear Kb_
  have Hgb := Lib.hid hgb
  clear hgb
  clear hbW3
  have CP := Lib.hid (Parse_bad ⟨#[48, 48, 55]⟩ ⟨#[48, 48, 55]⟩ false W3 rfl rfl (.inl (by unfold decT; decide)) (by decide))
  go_wp2_with fail
  rw [← hW3]
  try rw [Hgb.out]
  clear hW3 Hgb
  refine CP.out.mono ?_
  rintro e x4 ⟨rfl, hb⟩
  clear CP
  replace HE := Lib.hid (HE.out.below hb)
  replace NB1 := Lib.hid (NB1.out.below hb)
  replace DGp := Lib.hid (DGp.out.below hb)
  replace Kp := Lib.hid (Kp.out.below hb)
  replace Kb := Lib.hid (Kb.out.below hb)
  replace HB := Lib.hid (HB.out.trans (hb.mono HB.out.size))
  clear hb
  obtain ⟨W5, hW5⟩ : ∃ W, W = x4.alloc (.cells #[.bool false, .slice none 0 0] 24) := ⟨_, rfl⟩
  have hbW5 : Below x4.heap.size x4 W5 := by rw [hW5]; exact ((Below.refl _ x4).alloc (by exact Nat.le_refl _) _)
  have Kc_ : Blk W5 (x4.heap.size) 24 #[.bool false, .slice none 0 0] := by rw [hW5]; exact Blk.new _ _ _
  replace HE := Lib.hid (HE.out.below hbW5)
  replace NB1 := Lib.hid (NB1.out.below hbW5)
  replace DGp := Lib.hid (DGp.out.below hbW5)
  replace Kp := Lib.hid (Kp.out.below hbW5)
  replace Kb := Lib.hid (Kb.out.below hbW5)
  replace HB := Lib.hid (HB.out.trans (hbW5.mono HB.out.size))
  obtain ⟨gc, hgc⟩ : ∃ g, x4.heap.size = g := ⟨_, rfl⟩
  rw [hgc] at Kc_
  have Kc := Lib.hid Kc_
  clear Kc_
  have Hgc := Lib.hid hgc
  clear hgc
  clear hbW5
  have CP := Lib.hid (Of_any (-7) W5 (by decide) (by decide))
  go_wp2_with fail
  rw [← hW5]
  try rw [Hgc.out]
  clear hW5 Hgc
  refine CP.out.mono ?_
  rintro e x6 ⟨va, rfl, hv, hb⟩
  clear CP
  replace HE := Lib.hid (HE.out.below hb)
  replace NB1 := Lib.hid (NB1.out.below hb)
  replace DGp := Lib.hid (DGp.out.below hb)
  replace Kp := Lib.hid (Kp.out.below hb)
  replace Kb := Lib.hid (Kb.out.below hb)
  replace Kc := Lib.hid (Kc.out.below hb)
  replace HB := Lib.hid (HB.out.trans (hb.mono HB.out.size))
  have Nva := Lib.hid hv
  clear hv hb
  have CP := Lib.hid (Of_any (2) x6 (by decide) (by decide))
  go_wp2_with fail
  refine CP.out.mono ?_
  rintro e x7 ⟨vb, rfl, hv, hb⟩
  clear CP
  replace HE := Lib.hid (HE.out.below hb)
  replace NB1 := Lib.hid (NB1.out.below hb)
  replace DGp := Lib.hid (DGp.out.below hb)
  replace Kp := Lib.hid (Kp.out.below hb)
  replace Kb := Lib.hid (Kb.out.below hb)
  replace Kc := Lib.hid (Kc.out.below hb)
  replace Nva := Lib.hid (Nva.out.below hb)
  replace HB := Lib.hid (HB.out.trans (hb.mono HB.out.size))
  have Nvb := Lib.hid hv
  clear hv hb
  have CP := Lib.hid (DivFloor_any 4294967296 div_small va vb (-7) (2) 2 2 x7 Nva.out.bg Nvb.out.bg (by decide) (by decide) (by decide) (by decide))
  go_wp2_with fail
  refine CP.out.mono ?_
  rintro e x8 ⟨vq, vr, q, r, rfl, hq, hr, hqr, hb⟩
  clear CP
  replace HE := Lib.hid (HE.out.below hb)
  replace NB1 := Lib.hid (NB1.out.below hb)
  replace DGp := Lib.hid (DGp.out.below hb)
  replace Kp := Lib.hid (Kp.out.below hb)
  replace Kb := Lib.hid (Kb.out.below hb)
  replace Kc := Lib.hid (Kc.out.below hb)
  replace Nva := Lib.hid (Nva.out.below hb)
  replace Nvb := Lib.hid (Nvb.out.below hb)
  replace HB := Lib.hid (HB.out.trans (hb.mono HB.out.size))
  obtain rfl : q = (-4) := by
    have h1 := hqr.1
    have h2 := hqr.2
    omega
  obtain rfl : r = 1 := by
    have h1 := hqr.1
    have h2 := hqr.2
    omega
  have NQq := Lib.hid hq
  have NQr := Lib.hid hr
  clear hq hr hqr hb Nva Nvb
  obtain ⟨Aq, nq, cq, Dq, hevq, hoq, hsq, hnq, hvq, hNq⟩ := NQq.out
  obtain ⟨sbq, hsbq⟩ : ∃ b, b = decide (((-4) : Int) < 0) := ⟨_, rfl⟩
  rw [← hsbq] at hevq
  subst hevq
  have HSBq := Lib.hid hsbq
  clear hsbq
  obtain rfl : sbq = true := by rw [HSBq.out]; decide
  obtain ⟨Ar, nr, cr, Dr, hevr, hor, hsr, hnr, hvr, hNr⟩ := NQr.out
  obtain ⟨sbr, hsbr⟩ : ∃ b, b = decide ((1 : Int) < 0) := ⟨_, rfl⟩
  rw [← hsbr] at hevr
  subst hevr
  have HSBr := Lib.hid hsbr
  clear hsbr
  obtain rfl : sbr = false := by rw [HSBr.out]; decide
  obtain ⟨W9, hW9⟩ : ∃ W, W = (x8.alloc (.cells #[.bool true, .slice Aq nq cq] 24)).alloc (.cells #[.bool false, .slice Ar nr cr] 24) := ⟨_, rfl⟩
  have hbW9 : Below x8.heap.size x8 W9 := by rw [hW9]; exact (((Below.refl _ x8).alloc (by exact Nat.le_refl _) _).alloc (by simp) _)
  have Kq_ : Blk W9 (x8.heap.size) 24 #[.bool true, .slice Aq nq cq] := by rw [hW9]; exact (Blk.new _ _ _).alloc _
  have Kr_ : Blk W9 (x8.heap.size + 1) 24 #[.bool false, .slice Ar nr cr] := by rw [hW9]; exact Blk.new_ (by simp) rfl
  replace HE := Lib.hid (HE.out.below hbW9)
  replace NB1 := Lib.hid (NB1.out.below hbW9)
  replace DGp := Lib.hid (DGp.out.below hbW9)
  replace Kp := Lib.hid (Kp.out.below hbW9)
  replace Kb := Lib.hid (Kb.out.below hbW9)
  replace Kc := Lib.hid (Kc.out.below hbW9)
  replace NQq := Lib.hid (NQq.out.below hbW9)
  replace NQr := Lib.hid (NQr.out.below hbW9)
  replace HB := Lib.hid (HB.out.trans (hbW9.mono HB.out.size))
  obtain ⟨gq, hgq⟩ : ∃ g, x8.heap.size = g := ⟨_, rfl⟩
  rw [hgq] at Kq_
  have Kq := Lib.hid Kq_
  clear Kq_
  obtain ⟨gr, hgr⟩ : ∃ g, gq + 1 = g := ⟨_, rfl⟩
  rw [hgq, hgr] at Kr_
  have Kr := Lib.hid Kr_
  clear Kr_
  have Hgq := Lib.hid hgq
  clear hgq
  have Hgr := Lib.hid hgr
  clear hgr
  clear hbW9
  have CP := Lib.hid (Of_any (7) W9 (by decide) (by decide))
  go_wp2_with fail
  rw [← hW9]
  try rw [Hgq.out]
  try rw [Hgr.out]
  clear hW9 Hgq Hgr
  refine CP.out.mono ?_
  rintro e x10 ⟨va, rfl, hv, hb⟩
  clear CP
  replace HE := Lib.hid (HE.out.below hb)
  replace NB1 := Lib.hid (NB1.out.below hb)
  replace DGp := Lib.hid (DGp.out.below hb)
  replace Kp := Lib.hid (Kp.out.below hb)
  replace Kb := Lib.hid (Kb.out.below hb)
  replace Kc := Lib.hid (Kc.out.below hb)
  replace NQq := Lib.hid (NQq.out.below hb)
  replace NQr := Lib.hid (NQr.out.below hb)
  replace Kq := Lib.hid (Kq.out.below hb)
  replace Kr := Lib.hid (Kr.out.below hb)
  replace HB := Lib.hid (HB.out.trans (hb.mono HB.out.size))
  have Nva := Lib.hid hv
  clear hv hb
  have CP := Lib.hid (Of_any (-2) x10 (by decide) (by decide))
  go_wp2_with fail
  refine CP.out.mono ?_
  rintro e x11 ⟨vb, rfl, hv, hb⟩
  clear CP
  replace HE := Lib.hid (HE.out.below hb)
  replace NB1 := Lib.hid (NB1.out.below hb)
  replace DGp := Lib.hid (DGp.out.below hb)
  replace Kp := Lib.hid (Kp.out.below hb)
  replace Kb := Lib.hid (Kb.out.below hb)
  replace Kc := Lib.hid (Kc.out.below hb)
  replace NQq := Lib.hid (NQq.out.below hb)
  replace NQr := Lib.hid (NQr.out.below hb)
  replace Kq := Lib.hid (Kq.out.below hb)
  replace Kr := Lib.hid (Kr.out.below hb)
  replace Nva := Lib.hid (Nva.out.below hb)
  replace HB := Lib.hid (HB.out.trans (hb.mono HB.out.size))
  have Nvb := Lib.hid hv
  clear hv hb
  have CP := Lib.hid (DivFloor_any 4294967296 div_small va vb (7) (-2) 2 2 x11 Nva.out.bg Nvb.out.bg (by decide) (by decide) (by decide) (by decide))
  go_wp2_with fail
  refine CP.out.mono ?_
  rintro e x12 ⟨vq, vr, q, r, rfl, hq, hr, hqr, hb⟩
  clear CP
  replace HE := Lib.hid (HE.out.below hb)
  replace NB1 := Lib.hid (NB1.out.below hb)
  replace DGp := Lib.hid (DGp.out.below hb)
  replace Kp := Lib.hid (Kp.out.below hb)
  replace Kb := Lib.hid (Kb.out.below hb)
  replace Kc := Lib.hid (Kc.out.below hb)
  replace NQq := Lib.hid (NQq.out.below hb)
  replace NQr := Lib.hid (NQr.out.below hb)
  replace Kq := Lib.hid (Kq.out.below hb)
  replace Kr := Lib.hid (Kr.out.below hb)
  replace Nva := Lib.hid (Nva.out.below hb)
  replace Nvb := Lib.hid (Nvb.out.below hb)
  replace HB := Lib.hid (HB.out.trans (hb.mono HB.out.size))
  obtain rfl : q = (-4) := by
    have h1 := hqr.1
    have h2 := hqr.2
    omega
  obtain rfl : r = (-1) := by
    have h1 := hqr.1
    have h2 := hqr.2
    omega
  have NQs := Lib.hid hq
  have NQt := Lib.hid hr
  clear hq hr hqr hb Nva Nvb
  obtain ⟨As, ns, cs, Ds, hevs, hos, hss, hns, hvs, hNs⟩ := NQs.out
  obtain ⟨sbs, hsbs⟩ : ∃ b, b = decide (((-4) : Int) < 0) := ⟨_, rfl⟩
  rw [← hsbs] at hevs
  subst hevs
  have HSBs := Lib.hid hsbs
  clear hsbs
  obtain rfl : sbs = true := by rw [HSBs.out]; decide
  obtain ⟨At, nt, ct, Dt, hevt, hot, hst, hnt, hvt, hNt⟩ := NQt.out
  obtain ⟨sbt, hsbt⟩ : ∃ b, b = decide (((-1) : Int) < 0) := ⟨_, rfl⟩
  rw [← hsbt] at hevt
  subst hevt
  have HSBt := Lib.hid hsbt
  clear hsbt
  obtain rfl : sbt = true := by rw [HSBt.out]; decide
  obtain ⟨W13, hW13⟩ : ∃ W, W = (x12.alloc (.cells #[.bool true, .slice As ns cs] 24)).alloc (.cells #[.bool true, .slice At nt ct] 24) := ⟨_, rfl⟩
  have hbW13 : Below x12.heap.size x12 W13 := by rw [hW13]; exact (((Below.refl _ x12).alloc (by exact Nat.le_refl _) _).alloc (by simp) _)
  have Ks_ : Blk W13 (x12.heap.size) 24 #[.bool true, .slice As ns cs] := by rw [hW13]; exact (Blk.new _ _ _).alloc _
  have Kt_ : Blk W13 (x12.heap.size + 1) 24 #[.bool true, .slice At nt ct] := by rw [hW13]; exact Blk.new_ (by simp) rfl
  replace HE := Lib.hid (HE.out.below hbW13)
  replace NB1 := Lib.hid (NB1.out.below hbW13)
  replace DGp := Lib.hid (DGp.out.below hbW13)
  replace Kp := Lib.hid (Kp.out.below hbW13)
  replace Kb := Lib.hid (Kb.out.below hbW13)
  replace Kc := Lib.hid (Kc.out.below hbW13)
  replace NQq := Lib.hid (NQq.out.below hbW13)
  replace NQr := Lib.hid (NQr.out.below hbW13)
  replace Kq := Lib.hid (Kq.out.below hbW13)
  replace Kr := Lib.hid (Kr.out.below hbW13)
  replace NQs := Lib.hid (NQs.out.below hbW13)
  replace NQt := Lib.hid (NQt.out.below hbW13)
  replace HB := Lib.hid (HB.out.trans (hbW13.mono HB.out.size))
  obtain ⟨gs, hgs⟩ : ∃ g, x12.heap.size = g := ⟨_, rfl⟩
  rw [hgs] at Ks_
  have Ks := Lib.hid Ks_
  clear Ks_
  obtain ⟨gt, hgt⟩ : ∃ g, gs + 1 = g := ⟨_, rfl⟩
  rw [hgs, hgt] at Kt_
  have Kt := Lib.hid Kt_
  clear Kt_
  have Hgs := Lib.hid hgs
  clear hgs
  have Hgt := Lib.hid hgt
  clear hgt
  clear hbW13
  have CP := Lib.hid (Of_any (-12) W13 (by decide) (by decide))
  go_wp2_with fail
  rw [← hW13]
  try rw [Hgs.out]
  try rw [Hgt.out]
  clear hW13 Hgs Hgt
  refine CP.out.mono ?_
  rintro e x14 ⟨va, rfl, hv, hb⟩
  clear CP
  replace HE := Lib.hid (HE.out.below hb)
  replace NB1 := Lib.hid (NB1.out.below hb)
  replace DGp := Lib.hid (DGp.out.below hb)
  replace Kp := Lib.hid (Kp.out.below hb)
  replace Kb := Lib.hid (Kb.out.below hb)
  replace Kc := Lib.hid (Kc.out.below hb)
  replace NQq := Lib.hid (NQq.out.below hb)
  replace NQr := Lib.hid (NQr.out.below hb)
  replace Kq := Lib.hid (Kq.out.below hb)
  replace Kr := Lib.hid (Kr.out.below hb)
  replace NQs := Lib.hid (NQs.out.below hb)
  replace NQt := Lib.hid (NQt.out.below hb)
  replace Ks := Lib.hid (Ks.out.below hb)
  replace Kt := Lib.hid (Kt.out.below hb)
  replace HB := Lib.hid (HB.out.trans (hb.mono HB.out.size))
  have Nva := Lib.hid hv
  clear hv hb
  have CP := Lib.hid (Of_any (18) x14 (by decide) (by decide))
  go_wp2_with fail
  refine CP.out.mono ?_
  rintro e x15 ⟨vb, rfl, hv, hb⟩
  clear CP
  replace HE := Lib.hid (HE.out.below hb)
  replace NB1 := Lib.hid (NB1.out.below hb)
  replace DGp := Lib.hid (DGp.out.below hb)
  replace Kp := Lib.hid (Kp.out.below hb)
  replace Kb := Lib.hid (Kb.out.below hb)
  replace Kc := Lib.hid (Kc.out.below hb)
  replace NQq := Lib.hid (NQq.out.below hb)
  replace NQr := Lib.hid (NQr.out.below hb)
  replace Kq := Lib.hid (Kq.out.below hb)
  replace Kr := Lib.hid (Kr.out.below hb)
  replace NQs := Lib.hid (NQs.out.below hb)
  replace NQt := Lib.hid (NQt.out.below hb)
  replace Ks := Lib.hid (Ks.out.below hb)
  replace Kt := Lib.hid (Kt.out.below hb)
  replace Nva := Lib.hid (Nva.out.below hb)
  replace HB := Lib.hid (HB.out.trans (hb.mono HB.out.size))
  have Nvb := Lib.hid hv
  clear hv hb
  have CP := Lib.hid (GCD_any 4294967296 div_small va vb (-12) 18 2 x15 Nva.out.bg Nvb.out.bg (by decide) (by decide))
  rw [show ((Nat.gcd (-12 : Int).natAbs (18 : Int).natAbs : Nat) : Int) = 6 by decide +kernel] at CP
  go_wp2_with fail
  refine CP.out.mono ?_
  rintro e x16 ⟨vd, rfl, hv, hb⟩
  clear CP
  replace HE := Lib.hid (HE.out.below hb)
  replace NB1 := Lib.hid (NB1.out.below hb)
  replace DGp := Lib.hid (DGp.out.below hb)
  replace Kp := Lib.hid (Kp.out.below hb)
  replace Kb := Lib.hid (Kb.out.below hb)
  replace Kc := Lib.hid (Kc.out.below hb)
  replace NQq := Lib.hid (NQq.out.below hb)
  replace NQr := Lib.hid (NQr.out.below hb)
  replace Kq := Lib.hid (Kq.out.below hb)
  replace Kr := Lib.hid (Kr.out.below hb)
  replace NQs := Lib.hid (NQs.out.below hb)
  replace NQt := Lib.hid (NQt.out.below hb)
  replace Ks := Lib.hid (Ks.out.below hb)
  replace Kt := Lib.hid (Kt.out.below hb)
  replace Nva := Lib.hid (Nva.out.below hb)
  replace Nvb := Lib.hid (Nvb.out.below hb)
  replace HB := Lib.hid (HB.out.trans (hb.mono HB.out.size))
  have NQd := Lib.hid hv
  clear hv hb Nva Nvb
  obtain ⟨Ad, nd, cd, Dd, hevd, hod, hsd, hnd, hvd, hNd⟩ := NQd.out
  obtain ⟨sbd, hsbd⟩ : ∃ b, b = decide ((6 : Int) < 0) := ⟨_, rfl⟩
  rw [← hsbd] at hevd
  subst hevd
  have HSBd := Lib.hid hsbd
  clear hsbd
  obtain rfl : sbd = false := by rw [HSBd.out]; decide
  obtain ⟨W17, hW17⟩ : ∃ W, W = x16.alloc (.cells #[.bool false, .slice Ad nd cd] 24) := ⟨_, rfl⟩
  have hbW17 : Below x16.heap.size x16 W17 := by rw [hW17]; exact ((Below.refl _ x16).alloc (by exact Nat.le_refl _) _)
  have Kd_ : Blk W17 (x16.heap.size) 24 #[.bool false, .slice Ad nd cd] := by rw [hW17]; exact Blk.new _ _ _
  replace HE := Lib.hid (HE.out.below hbW17)
  replace NB1 := Lib.hid (NB1.out.below hbW17)
  replace DGp := Lib.hid (DGp.out.below hbW17)
  replace Kp := Lib.hid (Kp.out.below hbW17)
  replace Kb := Lib.hid (Kb.out.below hbW17)
  replace Kc := Lib.hid (Kc.out.below hbW17)
  replace NQq := Lib.hid (NQq.out.below hbW17)
  replace NQr := Lib.hid (NQr.out.below hbW17)
  replace Kq := Lib.hid (Kq.out.below hbW17)
  replace Kr := Lib.hid (Kr.out.below hbW17)
  replace NQs := Lib.hid (NQs.out.below hbW17)
  replace NQt := Lib.hid (NQt.out.below hbW17)
  replace Ks := Lib.hid (Ks.out.below hbW17)
  replace Kt := Lib.hid (Kt.out.below hbW17)
  replace NQd := Lib.hid (NQd.out.below hbW17)
  replace HB := Lib.hid (HB.out.trans (hbW17.mono HB.out.size))
  obtain ⟨gd, hgd⟩ : ∃ g, x16.heap.size = g := ⟨_, rfl⟩
  rw [hgd] at Kd_
  have Kd := Lib.hid Kd_
  clear Kd_
  have Hgd := Lib.hid hgd
  clear hgd
  clear hbW17
  have HDp := Lib.hid (show Dp = [0, 0, 1] from nmz_inj (by decide) _ _ hop.2.1 (by unfold dok; decide) hnp (by intro d hd; simp at hd; omega) (by rw [hvp]; rfl))
  have hnp3 : np = 3 := by rw [← hop.1, HDp.out]; rfl
  subst hnp3
  rw [HDp.out] at DGp
  obtain ⟨Wz, hWz⟩ : ∃ W, W = W17.alloc (.cells #[.int .u32 0, .int .u32 0, .int .u32 1] 47) := ⟨_, rfl⟩
  have hbz : Below W17.heap.size W17 Wz := by rw [hWz]; exact (Below.refl _ _).alloc (Nat.le_refl _) _
  have KZ : Blk Wz W17.heap.size 47 (dc [0, 0, 1]) := by rw [hWz]; exact Blk.new _ _ _
  have hgz : W17.heap.size = gd + 1 := by rw [hW17]; simp [Hgd.out]
  rw [hgz] at KZ
  clear hgz
  have CZ := Lib.hid (fun (h : DG Wz Ap 3 [0, 0, 1]) => Same_any false Ap 3 cp [0, 0, 1] (some ⟨gd + 1, 0, none⟩) 3 Wz h (Own.of_blk KZ (Nat.le_refl _) (by unfold dok; decide)).dg (by decide))
  have k0 : W17.cell? ⟨gp, 0, none⟩ = some (.bool false) := Kp.out.cell 0
  have k1 : W17.cell? ⟨gp, 1, none⟩ = some (.slice Ap 3 cp) := Kp.out.cell 1
  rw [hW17] at k0 k1
  go_wp2_with fail
  rw [← hW17]
  try rw [Hgd.out]
  rw [← hWz]
  clear hWz hW17 k0 k1
  refine (CZ.out (DGp.out.below hbz)).mono ?_
  rintro e x18 ⟨rfl, hb⟩
  replace HE := Lib.hid (HE.out.below hbz)
  replace NB1 := Lib.hid (NB1.out.below hbz)
  replace Kp := Lib.hid (Kp.out.below hbz)
  replace Kb := Lib.hid (Kb.out.below hbz)
  replace Kc := Lib.hid (Kc.out.below hbz)
  replace NQq := Lib.hid (NQq.out.below hbz)
  replace NQr := Lib.hid (NQr.out.below hbz)
  replace Kq := Lib.hid (Kq.out.below hbz)
  replace Kr := Lib.hid (Kr.out.below hbz)
  replace NQs := Lib.hid (NQs.out.below hbz)
  replace NQt := Lib.hid (NQt.out.below hbz)
  replace Ks := Lib.hid (Ks.out.below hbz)
  replace Kt := Lib.hid (Kt.out.below hbz)
  replace NQd := Lib.hid (NQd.out.below hbz)
  replace Kd := Lib.hid (Kd.out.below hbz)
  replace HB := Lib.hid (HB.out.trans (hbz.mono HB.out.size))
  replace HE := Lib.hid (HE.out.below hb)
  replace NB1 := Lib.hid (NB1.out.below hb)
  replace Kp := Lib.hid (Kp.out.below hb)
  replace Kb := Lib.hid (Kb.out.below hb)
  replace Kc := Lib.hid (Kc.out.below hb)
  replace NQq := Lib.hid (NQq.out.below hb)
  replace NQr := Lib.hid (NQr.out.below hb)
  replace Kq := Lib.hid (Kq.out.below hb)
  replace Kr := Lib.hid (Kr.out.below hb)
  replace NQs := Lib.hid (NQs.out.below hb)
  replace NQt := Lib.hid (NQt.out.below hb)
  replace Ks := Lib.hid (Ks.out.below hb)
  replace Kt := Lib.hid (Kt.out.below hb)
  replace NQd := Lib.hid (NQd.out.below hb)
  replace Kd := Lib.hid (Kd.out.below hb)
  replace HB := Lib.hid (HB.out.trans (hb.mono HB.out.size))
  clear hb hbz CZ KZ DGp
  have CF := Lib.hid (Format_any (.agg #[.bool false, .slice Ap 3 cp]) (18446744073709551616) 21 x18 (NB1.out.bg) (by decide) HE.out)
  rw [show fmtZ (18446744073709551616) = [49, 56, 52, 52, 54, 55, 52, 52, 48, 55, 51, 55, 48, 57, 53, 53, 49, 54, 49, 54] from by decide +kernel] at CF
  have k0 : x18.cell? ⟨gp, 0, none⟩ = some (.bool false) := Kp.out.cell 0
  have k1 : x18.cell? ⟨gp, 1, none⟩ = some (.slice Ap 3 cp) := Kp.out.cell 1
  go_wp2_with fail
  refine CF.out.mono ?_
  rintro e x19 ⟨rfl, hb⟩
  clear CF k0 k1
  replace HE := Lib.hid (HE.out.below hb)
  replace NB1 := Lib.hid (NB1.out.below hb)
  replace Kp := Lib.hid (Kp.out.below hb)
  replace Kb := Lib.hid (Kb.out.below hb)
  replace Kc := Lib.hid (Kc.out.below hb)
  replace NQq := Lib.hid (NQq.out.below hb)
  replace NQr := Lib.hid (NQr.out.below hb)
  replace Kq := Lib.hid (Kq.out.below hb)
  replace Kr := Lib.hid (Kr.out.below hb)
  replace NQs := Lib.hid (NQs.out.below hb)
  replace NQt := Lib.hid (NQt.out.below hb)
  replace Ks := Lib.hid (Ks.out.below hb)
  replace Kt := Lib.hid (Kt.out.below hb)
  replace NQd := Lib.hid (NQd.out.below hb)
  replace Kd := Lib.hid (Kd.out.below hb)
  replace HB := Lib.hid (HB.out.trans (hb.mono HB.out.size))
  clear hb
  have CF := Lib.hid (Format_any (.agg #[.bool true, .slice Aq nq cq]) (-4) 21 x19 (NQq.out.mono (Nat.le_refl _) (by decide : _ ≤ 21) |>.bg) (by decide) HE.out)
  rw [show fmtZ (-4) = [45, 52] from by decide +kernel] at CF
  have k0 : x19.cell? ⟨gq, 0, none⟩ = some (.bool true) := Kq.out.cell 0
  have k1 : x19.cell? ⟨gq, 1, none⟩ = some (.slice Aq nq cq) := Kq.out.cell 1
  go_wp2_with fail
  refine CF.out.mono ?_
  rintro e x20 ⟨rfl, hb⟩
  clear CF k0 k1
  replace HE := Lib.hid (HE.out.below hb)
  replace NB1 := Lib.hid (NB1.out.below hb)
  replace Kp := Lib.hid (Kp.out.below hb)
  replace Kb := Lib.hid (Kb.out.below hb)
  replace Kc := Lib.hid (Kc.out.below hb)
  replace NQq := Lib.hid (NQq.out.below hb)
  replace NQr := Lib.hid (NQr.out.below hb)
  replace Kq := Lib.hid (Kq.out.below hb)
  replace Kr := Lib.hid (Kr.out.below hb)
  replace NQs := Lib.hid (NQs.out.below hb)
  replace NQt := Lib.hid (NQt.out.below hb)
  replace Ks := Lib.hid (Ks.out.below hb)
  replace Kt := Lib.hid (Kt.out.below hb)
  replace NQd := Lib.hid (NQd.out.below hb)
  replace Kd := Lib.hid (Kd.out.below hb)
  replace HB := Lib.hid (HB.out.trans (hb.mono HB.out.size))
  clear hb
  have CF := Lib.hid (Format_any (.agg #[.bool false, .slice Ar nr cr]) (1) 21 x20 (NQr.out.mono (Nat.le_refl _) (by decide : _ ≤ 21) |>.bg) (by decide) HE.out)
  rw [show fmtZ (1) = [49] from by decide +kernel] at CF
  have k0 : x20.cell? ⟨gr, 0, none⟩ = some (.bool false) := Kr.out.cell 0
  have k1 : x20.cell? ⟨gr, 1, none⟩ = some (.slice Ar nr cr) := Kr.out.cell 1
  go_wp2_with fail
  refine CF.out.mono ?_
  rintro e x21 ⟨rfl, hb⟩
  clear CF k0 k1
  replace HE := Lib.hid (HE.out.below hb)
  replace NB1 := Lib.hid (NB1.out.below hb)
  replace Kp := Lib.hid (Kp.out.below hb)
  replace Kb := Lib.hid (Kb.out.below hb)
  replace Kc := Lib.hid (Kc.out.below hb)
  replace NQq := Lib.hid (NQq.out.below hb)
  replace NQr := Lib.hid (NQr.out.below hb)
  replace Kq := Lib.hid (Kq.out.below hb)
  replace Kr := Lib.hid (Kr.out.below hb)
  replace NQs := Lib.hid (NQs.out.below hb)
  replace NQt := Lib.hid (NQt.out.below hb)
  replace Ks := Lib.hid (Ks.out.below hb)
  replace Kt := Lib.hid (Kt.out.below hb)
  replace NQd := Lib.hid (NQd.out.below hb)
  replace Kd := Lib.hid (Kd.out.below hb)
  replace HB := Lib.hid (HB.out.trans (hb.mono HB.out.size))
  clear hb
  have CF := Lib.hid (Format_any (.agg #[.bool true, .slice As ns cs]) (-4) 21 x21 (NQs.out.mono (Nat.le_refl _) (by decide : _ ≤ 21) |>.bg) (by decide) HE.out)
  rw [show fmtZ (-4) = [45, 52] from by decide +kernel] at CF
  have k0 : x21.cell? ⟨gs, 0, none⟩ = some (.bool true) := Ks.out.cell 0
  have k1 : x21.cell? ⟨gs, 1, none⟩ = some (.slice As ns cs) := Ks.out.cell 1
  go_wp2_with fail
  refine CF.out.mono ?_
  rintro e x22 ⟨rfl, hb⟩
  clear CF k0 k1
  replace HE := Lib.hid (HE.out.below hb)
  replace NB1 := Lib.hid (NB1.out.below hb)
  replace Kp := Lib.hid (Kp.out.below hb)
  replace Kb := Lib.hid (Kb.out.below hb)
  replace Kc := Lib.hid (Kc.out.below hb)
  replace NQq := Lib.hid (NQq.out.below hb)
  replace NQr := Lib.hid (NQr.out.below hb)
  replace Kq := Lib.hid (Kq.out.below hb)
  replace Kr := Lib.hid (Kr.out.below hb)
  replace NQs := Lib.hid (NQs.out.below hb)
  replace NQt := Lib.hid (NQt.out.below hb)
  replace Ks := Lib.hid (Ks.out.below hb)
  replace Kt := Lib.hid (Kt.out.below hb)
  replace NQd := Lib.hid (NQd.out.below hb)
  replace Kd := Lib.hid (Kd.out.below hb)
  replace HB := Lib.hid (HB.out.trans (hb.mono HB.out.size))
  clear hb
  have CF := Lib.hid (Format_any (.agg #[.bool true, .slice At nt ct]) (-1) 21 x22 (NQt.out.mono (Nat.le_refl _) (by decide : _ ≤ 21) |>.bg) (by decide) HE.out)
  rw [show fmtZ (-1) = [45, 49] from by decide +kernel] at CF
  have k0 : x22.cell? ⟨gt, 0, none⟩ = some (.bool true) := Kt.out.cell 0
  have k1 : x22.cell? ⟨gt, 1, none⟩ = some (.slice At nt ct) := Kt.out.cell 1
  go_wp2_with fail
  refine CF.out.mono ?_
  rintro e x23 ⟨rfl, hb⟩
  clear CF k0 k1
  replace HE := Lib.hid (HE.out.below hb)
  replace NB1 := Lib.hid (NB1.out.below hb)
  replace Kp := Lib.hid (Kp.out.below hb)
  replace Kb := Lib.hid (Kb.out.below hb)
  replace Kc := Lib.hid (Kc.out.below hb)
  replace NQq := Lib.hid (NQq.out.below hb)
  replace NQr := Lib.hid (NQr.out.below hb)
  replace Kq := Lib.hid (Kq.out.below hb)
  replace Kr := Lib.hid (Kr.out.below hb)
  replace NQs := Lib.hid (NQs.out.below hb)
  replace NQt := Lib.hid (NQt.out.below hb)
  replace Ks := Lib.hid (Ks.out.below hb)
  replace Kt := Lib.hid (Kt.out.below hb)
  replace NQd := Lib.hid (NQd.out.below hb)
  replace Kd := Lib.hid (Kd.out.below hb)
  replace HB := Lib.hid (HB.out.trans (hb.mono HB.out.size))
  clear hb
  have CF := Lib.hid (Format_any (.agg #[.bool false, .slice Ad nd cd]) (6) 21 x23 (NQd.out.mono (Nat.le_refl _) (by decide : _ ≤ 21) |>.bg) (by decide) HE.out)
  rw [show fmtZ (6) = [54] from by decide +kernel] at CF
  have k0 : x23.cell? ⟨gd, 0, none⟩ = some (.bool false) := Kd.out.cell 0
  have k1 : x23.cell? ⟨gd, 1, none⟩ = some (.slice Ad nd cd) := Kd.out.cell 1
  go_wp2_with fail
  refine CF.out.mono ?_
  rintro e x24 ⟨rfl, hb⟩
  clear CF k0 k1
  replace HE := Lib.hid (HE.out.below hb)
  replace NB1 := Lib.hid (NB1.out.below hb)
  replace Kp := Lib.hid (Kp.out.below hb)
  replace Kb := Lib.hid (Kb.out.below hb)
  replace Kc := Lib.hid (Kc.out.below hb)
  replace NQq := Lib.hid (NQq.out.below hb)
  replace NQr := Lib.hid (NQr.out.below hb)
  replace Kq := Lib.hid (Kq.out.below hb)
  replace Kr := Lib.hid (Kr.out.below hb)
  replace NQs := Lib.hid (NQs.out.below hb)
  replace NQt := Lib.hid (NQt.out.below hb)
  replace Ks := Lib.hid (Ks.out.below hb)
  replace Kt := Lib.hid (Kt.out.below hb)
  replace NQd := Lib.hid (NQd.out.below hb)
  replace Kd := Lib.hid (Kd.out.below hb)
  replace HB := Lib.hid (HB.out.trans (hb.mono HB.out.size))
  clear hb
  go_wp2
  go_ret
  exact ⟨rfl, HB.out⟩
end Go.Proofs.YtndkcimdbidgaaaDoor
