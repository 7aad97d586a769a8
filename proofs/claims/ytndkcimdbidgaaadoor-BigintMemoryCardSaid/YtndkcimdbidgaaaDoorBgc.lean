/- The greatest common divisor. -/
import Derived.Test.YtndkcimdbidgaaaDoorBgl
import Derived.Test.YtndkcimdbidgaaaDoorBcp
import Derived.Test.YtndkcimdbidgaaaDoorBnm
import Derived.Deep.Cut
namespace Go.Proofs.YtndkcimdbidgaaaDoor
open Go.ChangeShapes Go.WideShapes Go.ChangeAt Go.RowKit Go.ChangeMaps

set_option maxRecDepth 100000 in
set_option maxHeartbeats 4000000 in
theorem GCD_any (X : Nat) (DV : DivOn X) (a b : Value) (z1 z2 : Int) (N : Nat) (w : World) (ha : BG w a z1 N) (hb : BG w b z2 N) (hN : N ≤ 30000) (hX : z2.natAbs < X) : Calls Tryd.prog 37 #[a, b] w fun e w' => ∃ v, e = .returned v ∧ NB w' w.heap.size v ((Nat.gcd z1.natAbs z2.natAbs : Nat) : Int) N ∧ Below w.heap.size w w' := by
  have HA := Lib.hid ha
  have HB' := Lib.hid hb
  obtain ⟨na, A, n, c, D, rfl, hd1, hs1, hn1, hz1⟩ := ha
  obtain ⟨nb, A2, m, c2, E, rfl, hd2, hs2, hn2, hz2⟩ := hb
  clear hd1 hs1 hn1 hz1 hd2 hs2 hn2 hz2
  obtain ⟨gg, hgg⟩ : ∃ g, Nat.gcd z1.natAbs z2.natAbs = g := ⟨_, rfl⟩
  rw [hgg]
  obtain ⟨W0, hW0⟩ : ∃ W, W = ((w.alloc (.cells #[.bool na, .slice A n c] 24)).alloc (.cells #[.bool nb, .slice A2 m c2] 24)).alloc (.cells #[.bool false, .slice none 0 0] 24) := ⟨_, rfl⟩
  have HB := Lib.hid (show Below w.heap.size w W0 by rw [hW0]; exact (((Below.refl _ w).alloc (Nat.le_refl _) _).alloc (by simp) _).alloc (by simp; omega) _)
  have K2 := Lib.hid (show Blk W0 w.heap.size 24 #[.bool na, .slice A n c] by rw [hW0]; exact ((Blk.new _ _ _).alloc _).alloc _)
  have K3 := Lib.hid (show Blk W0 (w.heap.size + 1) 24 #[.bool nb, .slice A2 m c2] by rw [hW0]; exact (Blk.new_ (by simp) rfl : Blk ((w.alloc _).alloc _) _ _ _).alloc _)
  have K4 := Lib.hid (show Blk W0 (w.heap.size + 1 + 1) 24 #[.bool false, .slice none 0 0] by rw [hW0]; exact Blk.new_ (by simp) rfl)
  have K2_0 : W0.cell? ⟨w.heap.size, 0, none⟩ = some (.bool na) := K2.out.cell 0
  have K2_1 : W0.cell? ⟨w.heap.size, 1, none⟩ = some (.slice A n c) := K2.out.cell 1
  have K3_0 : W0.cell? ⟨w.heap.size + 1, 0, none⟩ = some (.bool nb) := K3.out.cell 0
  have K3_1 : W0.cell? ⟨w.heap.size + 1, 1, none⟩ = some (.slice A2 m c2) := K3.out.cell 1
  go_enter Tryd.func37, Tryd.ntmps37
  go_upto_region 1 with fail
  rw [← hW0]
  clear hW0
  have hy0 : Below W0.heap.size W0 W0.drew := below_drew (Below.refl _ _)
  refine wp_region_mix 4 (fun w' => Below W0.heap.size W0 w') (by kernel_rfl) (by decide) ?_
  generalize W0.drew = y0 at hy0 ⊢
  refine wpM_take (i := 0) (oi := ⟨some 8, _, _, _, _, _⟩) (v := ?_) rfl (by decide +kernel) (by decide +kernel) (by decide +kernel) (fun _ _ _ h => h) (Or.inl ⟨by rfl, ?_⟩) hy0 ?_
  case refine_2 =>
    intro w' hSw
    have K2_0' := keepcell hSw K2_0
    have K2_1' := keepcell hSw K2_1
    have K3_0' := keepcell hSw K3_0
    have K3_1' := keepcell hSw K3_1
    go_simp
    try (with_reducible rfl)
  try simp only [Act.put, List.setIfInBounds_toArray, List.set_cons_zero, List.set_cons_succ]
  refine wpM_take (i := 2) (oi := ⟨some 10, _, _, _, _, _⟩) (v := ?_) rfl (by decide +kernel) (by decide +kernel) (by decide +kernel) (fun _ _ _ h => h) (Or.inl ⟨by rfl, ?_⟩) hy0 ?_
  case refine_2 =>
    intro w' hSw
    have K2_0' := keepcell hSw K2_0
    have K2_1' := keepcell hSw K2_1
    have K3_0' := keepcell hSw K3_0
    have K3_1' := keepcell hSw K3_1
    go_simp
    try (with_reducible rfl)
  try simp only [Act.put, List.setIfInBounds_toArray, List.set_cons_zero, List.set_cons_succ]
  refine wpM_step (i := 1) (o := ⟨some 9, _, _, _, _, _⟩) rfl (by decide +kernel) (by decide) (fun K hK => ?_)
  go_simp
  refine (Normal_any _ z1 N y0 ((HA.out.below HB.out).below hy0) (by omega)).mono ?_
  rintro e y1 ⟨v1, rfl, hnb1, hc⟩
  have hy1 : Below W0.heap.size W0 y1 := hy0.trans (hc.mono hy0.size)
  have HV1 := Lib.hid (hnb1.mono (show w.heap.size ≤ _ from Nat.le_trans HB.out.size hy0.size) (Nat.le_refl _))
  clear hnb1
  clear hc
  refine hK.out _ _ hy1 ?_
  clear hK K
  try simp only [Act.put, List.setIfInBounds_toArray, List.set_cons_zero, List.set_cons_succ]
  refine wpM_step (i := 3) (o := ⟨some 11, _, _, _, _, _⟩) rfl (by decide +kernel) (by decide) (fun K hK => ?_)
  go_simp
  refine (Normal_any _ z2 N y1 ((HB'.out.below HB.out).below hy1) (by omega)).mono ?_
  rintro e y2 ⟨v2, rfl, hnb2, hc⟩
  have hy2 : Below W0.heap.size W0 y2 := hy1.trans (hc.mono hy1.size)
  have HV2 := Lib.hid (hnb2.mono (show w.heap.size ≤ _ from Nat.le_trans HB.out.size hy1.size) (Nat.le_refl _))
  replace HV1 := Lib.hid (HV1.out.below hc)
  clear hnb2
  clear hc
  refine hK.out _ _ hy2 ?_
  clear hK K
  try simp only [Act.put, List.setIfInBounds_toArray, List.set_cons_zero, List.set_cons_succ]
  refine wpM_done (by decide +kernel) ?_
  simp only [List.drop_succ_cons, List.drop_zero]
  have HB2 := Lib.hid (HB.out.trans (hy2.mono HB.out.size))
  replace K2 := Lib.hid (K2.out.below hy2)
  replace K3 := Lib.hid (K3.out.below hy2)
  replace K4 := Lib.hid (K4.out.below hy2)
  clear K2_0 K2_1 K3_0 K3_1 hy0 hy1 hy2
  obtain ⟨Ap, np, cp, Dp, hevp, hop, hsp, hnp, hvp, hNp⟩ := HV1.out
  obtain ⟨sbp, hsbp⟩ : ∃ b, b = decide (z1 < 0) := ⟨_, rfl⟩
  rw [← hsbp] at hevp
  subst hevp
  have HSBp := Lib.hid hsbp
  clear hsbp
  obtain ⟨Aq, nq, cq, Dq, hevq, hoq, hsq, hnq, hvq, hNq⟩ := HV2.out
  obtain ⟨sbq, hsbq⟩ : ∃ b, b = decide (z2 < 0) := ⟨_, rfl⟩
  rw [← hsbq] at hevq
  subst hevq
  have HSBq := Lib.hid hsbq
  clear hsbq

  obtain ⟨Wa, hWa⟩ : ∃ W, W = y2.setRow (w.heap.size) #[.bool sbp, .slice Ap np cp] := ⟨_, rfl⟩
  have ROa := Lib.hid (fun g cs (h : g ≠ w.heap.size) (hb : Blk y2 g 24 cs) => show Blk Wa g 24 cs from by rw [hWa]; exact (setRow_other y2 _ g _ h).trans hb)
  have Ka2 := Lib.hid (show Blk Wa (w.heap.size) 24 #[.bool sbp, .slice Ap np cp] by rw [hWa]; exact K2.out.setRow)
  have Ka3 := Lib.hid (ROa.out (w.heap.size + 1) _ (by omega) K3.out)
  have Ka4 := Lib.hid (ROa.out (w.heap.size + 1 + 1) _ (by omega) K4.out)
  have NP := Lib.hid (show NB Wa w.heap.size (.agg #[.bool sbp, .slice Ap np cp]) z1 N by rw [hWa]; exact NB.row ⟨Ap, np, cp, Dp, by rw [HSBp.out], hop, hsp, hnp, hvp, hNp⟩ K2.out _)
  have NQ := Lib.hid (show NB Wa w.heap.size (.agg #[.bool sbq, .slice Aq nq cq]) z2 N by rw [hWa]; exact NB.row ⟨Aq, nq, cq, Dq, by rw [HSBq.out], hoq, hsq, hnq, hvq, hNq⟩ K2.out _)
  have HBa := Lib.hid (show Below w.heap.size w Wa by rw [hWa]; exact HB2.out.grown (grown_row _ _ _) HB2.out.size (fun j hj => by injection hj with hj; omega))
  obtain ⟨Wb, hWb⟩ : ∃ W, W = Wa.setRow (w.heap.size + 1) #[.bool sbq, .slice Aq nq cq] := ⟨_, rfl⟩
  have ROb := Lib.hid (fun g cs (h : g ≠ w.heap.size + 1) (hb : Blk Wa g 24 cs) => show Blk Wb g 24 cs from by rw [hWb]; exact (setRow_other Wa _ g _ h).trans hb)
  have Kb3 := Lib.hid (show Blk Wb (w.heap.size + 1) 24 #[.bool sbq, .slice Aq nq cq] by rw [hWb]; exact Ka3.out.setRow)
  have Kb2 := Lib.hid (ROb.out (w.heap.size) _ (by omega) Ka2.out)
  have Kb4 := Lib.hid (ROb.out (w.heap.size + 1 + 1) _ (by omega) Ka4.out)
  replace NP := Lib.hid (show NB Wb w.heap.size (.agg #[.bool sbp, .slice Ap np cp]) z1 N by rw [hWb]; exact NP.out.row Ka3.out _)
  replace NQ := Lib.hid (show NB Wb w.heap.size (.agg #[.bool sbq, .slice Aq nq cq]) z2 N by rw [hWb]; exact NQ.out.row Ka3.out _)
  have HBb := Lib.hid (show Below w.heap.size w Wb by rw [hWb]; exact HBa.out.grown (grown_row _ _ _) HBa.out.size (fun j hj => by injection hj with hj; omega))
  clear hop hsp hnp hvp hNp hoq hsq hnq hvq hNq ROa ROb HB2 HB
  have B2_0 : Wb.cell? ⟨w.heap.size, 0, none⟩ = some (.bool sbp) := Kb2.out.cell 0
  have B3_0 : Wb.cell? ⟨w.heap.size + 1, 0, none⟩ = some (.bool sbq) := Kb3.out.cell 0
  have F2 : Wb.frozen? ⟨w.heap.size, 0, none⟩ = false := Joins.unfrozen_of_block Kb2.out _
  have s1 := store_step Kb2.out 0 (.bool false)
  obtain ⟨Wc, hWc⟩ : ∃ W, W = Wb.setCell ⟨w.heap.size, 0, none⟩ (.bool false) := ⟨_, rfl⟩
  have NPc := Lib.hid (NP.out.pos.cellset Kb2.out 0 (.bool false))
  have NQc := Lib.hid (NQ.out.pos.cellset Kb2.out 0 (.bool false))
  rw [← hWc] at s1 NPc NQc
  have Kc3 := Lib.hid (s1.2.1 _ _ _ (by omega) Kb3.out)
  have Kc4 := Lib.hid (s1.2.1 _ _ _ (by omega) Kb4.out)
  have Kc2 : Hid (Blk Wc w.heap.size 24 #[.bool false, .slice Ap np cp]) := Lib.hid s1.1
  have HBc := Lib.hid (s1.2.2 _ _ HBb.out (Nat.le_refl _))
  have F3 : Wc.frozen? ⟨w.heap.size + 1, 0, none⟩ = false := Joins.unfrozen_of_block Kc3.out _
  have C3_0 : Wc.cell? ⟨w.heap.size + 1, 0, none⟩ = some (.bool sbq) := Kc3.out.cell 0
  obtain ⟨Wd, hWd⟩ : ∃ W, W = Wc.setCell ⟨w.heap.size + 1, 0, none⟩ (.bool false) := ⟨_, rfl⟩
  have s2 := store_step Kc3.out 0 (.bool false)
  have NPd := Lib.hid (NPc.out.cellset Kc3.out 0 (.bool false))
  have NQd := Lib.hid (NQc.out.cellset Kc3.out 0 (.bool false))
  rw [← hWd] at s2 NPd NQd
  have Kd2 := Lib.hid (s2.2.1 _ _ _ (by omega) Kc2.out)
  have Kd4 := Lib.hid (s2.2.1 _ _ _ (by omega) Kc4.out)
  have Kd3 : Hid (Blk Wd (w.heap.size + 1) 24 #[.bool false, .slice Aq nq cq]) := Lib.hid s2.1
  have HBd := Lib.hid (s2.2.2 _ _ HBc.out (by omega))
  clear s1 s2 NP NQ NPc NQc Kc3 Kc4 Kc2 HBc HBb
  rw [hWc] at F3 C3_0
  rw [hWb, hWa] at B2_0 B3_0 F2 F3 C3_0
  go_wp2_with (first | (refine wpList_store_row (o := ⟨none, _, _, _, _, _⟩) rfl 24 _ _ rfl (w.heap.size) #[.bool sbp, .slice Ap np cp] rfl rfl 24 _ K2.out (by kernel_rfl) rfl (by simp [Value.oneCell']) ?_; rw [← hWa]) | (refine wpList_store_row (o := ⟨none, _, _, _, _, _⟩) rfl 24 _ _ rfl (w.heap.size + 1) #[.bool sbq, .slice Aq nq cq] rfl rfl 24 _ Ka3.out (by kernel_rfl) rfl (by simp [Value.oneCell']) ?_))
  rw [← hWa, ← hWb, ← hWc, ← hWd]
  clear hWa hWb hWc hWd B2_0 B3_0 F2 F3 C3_0
  clear HA HB' K2 K3 K4 Ka2 Ka3 Ka4 Kb2 Kb3 Kb4 HBa
  go_loopw [7] (fun s7 wr => ∃ (A : Option Addr) (n c : Nat) (A' : Option Addr) (n' c' x y : Nat), Blk wr w.heap.size 24 #[.bool false, .slice A n c] ∧ Blk wr (w.heap.size + 1) 24 #[.bool false, .slice A' n' c'] ∧ Blk wr (w.heap.size + 1 + 1) 24 #[.bool false, .slice none 0 0] ∧ NB wr w.heap.size (.agg #[.bool false, .slice A n c]) (x : Int) N ∧ NB wr w.heap.size (.agg #[.bool false, .slice A' n' c']) (y : Int) N ∧ Nat.gcd x y = gg ∧ y < X ∧ Below w.heap.size w wr) (fun _ wr => inBlk (w.heap.size + 1) wr)
  case atStart => exact ⟨_, _, _, _, _, _, z1.natAbs, z2.natAbs, Kd2.out, Kd3.out, Kd4.out, NPd.out, NQd.out, hgg, hX, HBd.out⟩
  case round =>
    clear Kd2 Kd3 Kd4 NPd NQd HBd HSBp HSBq hgg hX
    obtain ⟨A1, n1, c1, A2', n2, c2', x, y, k2, k3, k4, nx, ny, hg, hyX, hb⟩ := hrel
    have HK2 := Lib.hid k2
    have HK3 := Lib.hid k3
    have HK4 := Lib.hid k4
    have HNX := Lib.hid nx
    have HNY := Lib.hid ny
    have HG := Lib.hid hg
    have HBw := Lib.hid hb
    have HYX := Lib.hid hyX
    have k2_0 : wr.cell? ⟨w.heap.size, 0, none⟩ = some (.bool false) := k2.cell 0
    have k2_1 : wr.cell? ⟨w.heap.size, 1, none⟩ = some (.slice A1 n1 c1) := k2.cell 1
    have k3_0 : wr.cell? ⟨w.heap.size + 1, 0, none⟩ = some (.bool false) := k3.cell 0
    have k3_1 : wr.cell? ⟨w.heap.size + 1, 1, none⟩ = some (.slice A2' n2 c2') := k3.cell 1
    have HMW := Lib.hid (inBlk_eq k3 rfl ny)
    have HKL := Lib.hid k4.lt
    clear k2 k3 k4 nx ny hg hb hyX
    by_cases hp : (n2 : Int) > 0
    · have hy0 : 0 < y := by have := HNY.out.len.1 hp; omega
      have hy1 : ((y : Nat) : Int) ≠ 0 := by omega
      have CD := Lib.hid (DivFloor_any X DV (.agg #[.bool false, .slice A1 n1 c1]) (.agg #[.bool false, .slice A2' n2 c2']) (x : Int) (y : Int) N N wr HNX.out.bg HNY.out.bg (by omega) (by omega) hy1 (by simpa using HYX.out))
      clear hy1
      go_wp2_with fail
      refine CD.out.mono ?_
      rintro e w3 ⟨vq, vr, q, r, rfl, hq, hr, hqr, hb⟩
      obtain ⟨k, rfl, hky, hkg⟩ := qr_gcd hqr hy0
      have HKG := Lib.hid hkg
      have HKY := Lib.hid hky
      have HR := Lib.hid ((hr.mono HBw.out.size (Nat.le_refl _)).small (K := N) (by have h1 := HNY.out.lt; simp at h1 ⊢; omega))
      have HQ := Lib.hid (hq.mono HBw.out.size (Nat.le_refl _))
      have HB3 := Lib.hid (HBw.out.trans (hb.mono HBw.out.size))
      have HBs := Lib.hid hb.size
      replace HK2 := Lib.hid (HK2.out.below hb)
      replace HK3 := Lib.hid (HK3.out.below hb)
      replace HK4 := Lib.hid (HK4.out.below hb)
      replace HNY := Lib.hid (HNY.out.below hb)
      clear hq hr hqr hb k2_0 k2_1 k3_0 k3_1 CD HNX hkg hky
      obtain ⟨As, ns, cs, Ds, hevs, hos, hss, hns, hvs, hNs⟩ := HQ.out
      obtain ⟨sbs, hsbs⟩ : ∃ b, b = decide (q < 0) := ⟨_, rfl⟩
      rw [← hsbs] at hevs
      subst hevs
      have HSBs := Lib.hid hsbs
      clear hsbs
      obtain ⟨At, nt, ct, Dt, hevt, hot, hst, hnt, hvt, hNt⟩ := HR.out
      obtain ⟨sbt, hsbt⟩ : ∃ b, b = decide ((k : Int) < 0) := ⟨_, rfl⟩
      rw [← hsbt] at hevt
      subst hevt
      have HSBt := Lib.hid hsbt
      clear hsbt
      clear hos hss hns hvs hNs HSBs
      go_upto_region 5 with fail
      obtain ⟨W4, hW4⟩ : ∃ W, W = (w3.alloc (.cells #[.bool sbs, .slice As ns cs] 24)).alloc (.cells #[.bool sbt, .slice At nt ct] 24) := ⟨_, rfl⟩
      rw [← hW4]
      have hal := ((Below.refl w3.heap.size w3).alloc (Nat.le_refl _) (.cells #[.bool sbs, .slice As ns cs] 24)).alloc (by simp) (.cells #[.bool sbt, .slice At nt ct] 24)
      rw [← hW4] at hal
      have ht0 : sbt = false := by rw [HSBt.out]; simp
      subst ht0
      have HB4 := Lib.hid (HB3.out.trans (hal.mono HB3.out.size))
      have K6 := Lib.hid (show Blk W4 (w3.heap.size + 1) 24 #[.bool false, .slice At nt ct] by rw [hW4]; exact Blk.new_ (by simp) rfl)
      replace HK2 := Lib.hid (HK2.out.below hal)
      replace HK3 := Lib.hid (HK3.out.below hal)
      replace HK4 := Lib.hid (HK4.out.below hal)
      replace HNY := Lib.hid (HNY.out.below hal)
      have HNT := Lib.hid (show NB W4 w.heap.size (.agg #[.bool false, .slice At nt ct]) (k : Int) N from NB.below ⟨At, nt, ct, Dt, by rw [HSBt.out], hot, hst, hnt, hvt, hNt⟩ hal)
      have hw3 : w.heap.size + 1 + 1 < w3.heap.size := by exact Nat.lt_of_lt_of_le HKL.out HBs.out
      obtain ⟨g6, hg6⟩ : ∃ g, w3.heap.size + 1 = g := ⟨_, rfl⟩
      rw [hg6] at K6
      have hg6' : w.heap.size + 1 + 1 < g6 := by omega
      clear hot hst hnt hvt hNt hal hW4 hw3
      have k3_0 : W4.cell? ⟨w.heap.size + 1, 0, none⟩ = some (.bool false) := HK3.out.cell 0
      have k3_1 : W4.cell? ⟨w.heap.size + 1, 1, none⟩ = some (.slice A2' n2 c2') := HK3.out.cell 1
      have k2_0 : W4.cell? ⟨w.heap.size, 0, none⟩ = some (.bool false) := HK2.out.cell 0
      have k2_1 : W4.cell? ⟨w.heap.size, 1, none⟩ = some (.slice A1 n1 c1) := HK2.out.cell 1
      have k6_0 : W4.cell? ⟨g6, 0, none⟩ = some (.bool false) := K6.out.cell 0
      have k6_1 : W4.cell? ⟨g6, 1, none⟩ = some (.slice At nt ct) := K6.out.cell 1
      have F2 : ∀ j, W4.frozen? ⟨w.heap.size, j, none⟩ = false := fun j => Joins.unfrozen_of_block HK2.out _
      obtain ⟨W5, hW5⟩ : ∃ W, W = (W4.setCell ⟨w.heap.size, 0, none⟩ (.bool false)).setCell ⟨w.heap.size, 1, none⟩ (.slice A2' n2 c2') := ⟨_, rfl⟩
      have s1 := store_step HK2.out 0 (.bool false)
      have s2 := store_step s1.1 1 (.slice A2' n2 c2')
      have NY5 := Lib.hid ((HNY.out.cellset HK2.out 0 (.bool false)).cellset s1.1 1 (.slice A2' n2 c2'))
      have NT5 := Lib.hid ((HNT.out.cellset HK2.out 0 (.bool false)).cellset s1.1 1 (.slice A2' n2 c2'))
      rw [← hW5] at s2 NY5 NT5
      have M2 : Blk W5 w.heap.size 24 #[.bool false, .slice A2' n2 c2'] := s2.1
      have M3 : Blk W5 (w.heap.size + 1) 24 #[.bool false, .slice A2' n2 c2'] := s2.2.1 _ _ _ (by omega) (s1.2.1 _ _ _ (by omega) HK3.out)
      have M4 : Blk W5 (w.heap.size + 1 + 1) 24 #[.bool false, .slice none 0 0] := s2.2.1 _ _ _ (by omega) (s1.2.1 _ _ _ (by omega) HK4.out)
      have M6 : Blk W5 g6 24 #[.bool false, .slice At nt ct] := s2.2.1 _ _ _ (by omega) (s1.2.1 _ _ _ (by omega) K6.out)
      have m6_0 : W5.cell? ⟨g6, 0, none⟩ = some (.bool false) := M6.cell 0
      have m6_1 : W5.cell? ⟨g6, 1, none⟩ = some (.slice At nt ct) := M6.cell 1
      have m3_0 : W5.cell? ⟨w.heap.size + 1, 0, none⟩ = some (.bool false) := M3.cell 0
      have m3_1 : W5.cell? ⟨w.heap.size + 1, 1, none⟩ = some (.slice A2' n2 c2') := M3.cell 1
      have F3 : ∀ j, W5.frozen? ⟨w.heap.size + 1, j, none⟩ = false := fun j => Joins.unfrozen_of_block M3 _
      obtain ⟨W6, hW6⟩ : ∃ W, W = (W5.setCell ⟨w.heap.size + 1, 0, none⟩ (.bool false)).setCell ⟨w.heap.size + 1, 1, none⟩ (.slice At nt ct) := ⟨_, rfl⟩
      have s3 := store_step M3 0 (.bool false)
      have s4 := store_step s3.1 1 (.slice At nt ct)
      have NY6 := Lib.hid ((NY5.out.cellset M3 0 (.bool false)).cellset s3.1 1 (.slice At nt ct))
      have NT6 := Lib.hid ((NT5.out.cellset M3 0 (.bool false)).cellset s3.1 1 (.slice At nt ct))
      rw [← hW6] at s4 NY6 NT6
      have P3 : Hid (Blk W6 (w.heap.size + 1) 24 #[.bool false, .slice At nt ct]) := Lib.hid s4.1
      have P2 := Lib.hid (s4.2.1 _ _ _ (by omega) (s3.2.1 _ _ _ (by omega) M2))
      have P4 := Lib.hid (s4.2.1 _ _ _ (by omega) (s3.2.1 _ _ _ (by omega) M4))
      have HB6 := Lib.hid (s4.2.2 _ _ (s3.2.2 _ _ (s2.2.2 _ _ (s1.2.2 _ _ HB4.out (by omega)) (by omega)) (by omega)) (by omega))
      rw [hW5] at m6_0 m6_1 m3_0 m3_1 F3 hW6
      have HM := Lib.hid (show inBlk (w.heap.size + 1) W6 < y from by rw [inBlk_eq P3.out rfl NT6.out]; exact HKY.out)
      have HM2 := Lib.hid (show inBlk (w.heap.size + 1) W6.drew < y from by rw [inBlk_eq (W := W6.drew) P3.out rfl NT6.out]; exact HKY.out)
      clear s1 s2 s3 s4 M2 M3 M4 M6 NY5 NT5 HNY HNT HK2 HK3 HK4 K6
      go_region
      all_goals
        rw [← hW6]
        go_wp2_with fail
        go_roundw
        case rel => exact ⟨_, _, _, _, _, _, y, k, P2.out, P3.out, P4.out, NY6.out, NT6.out, HKG.out.trans HG.out, Nat.lt_trans HKY.out HYX.out, (by first | exact HB6.out | exact below_drew HB6.out)⟩
        case measure => first | exact HMW.out.symm ▸ HM.out | exact HMW.out.symm ▸ HM2.out
    · have hy0 : y = 0 := by
        rcases Nat.eq_zero_or_pos y with e | e
        · exact e
        · exact absurd (HNY.out.len.2 (by omega)) hp
      subst hy0
      have HZ := Lib.hid (show (x : Int) = (gg : Int) from by rw [← HG.out, Nat.gcd_zero_right])
      rw [HZ.out] at HNX
      go_wp2_with ((refine wpList_store_row (o := ⟨none, _, _, _, _, _⟩) rfl 24 _ _ rfl (w.heap.size + 1 + 1) #[.bool false, .slice A1 n1 c1] rfl rfl 24 _ HK4.out (by kernel_rfl) rfl (by simp [Value.oneCell']) ?_))
      refine bodyPost_ret (results_c1 rfl _ _ _ (w.heap.size + 1 + 1) _ rfl (load24 (HK4.out.setRow (ds := #[.bool false, .slice A1 n1 c1])) rfl)) rfl ?_
      exact ⟨_, rfl, HNX.out.row HK4.out _, HBw.out.grown (grown_row wr (w.heap.size + 1 + 1) _) HBw.out.size (fun j hj => by first | (injection hj with hj; omega) | omega)⟩
end Go.Proofs.YtndkcimdbidgaaaDoor
