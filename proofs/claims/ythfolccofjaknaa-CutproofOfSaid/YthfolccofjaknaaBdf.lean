/- Division of integers, rounded down. -/
import Derived.Test.YthfolccofjaknaaBdq
namespace Go.Proofs.Ythfolccofjaknaa
open Go.ChangeShapes Go.WideShapes Go.ChangeAt Go.RowKit Go.ChangeMaps

set_option maxRecDepth 100000 in
set_option maxHeartbeats 4000000 in
theorem DivFloor_any (X : Nat) (DV : DivOn X) (a b : Value) (z1 z2 : Int) (N1 N2 : Nat) (w : World) (ha : BG w a z1 N1) (hb : BG w b z2 N2) (hN1 : N1 ≤ 40000) (hN2 : N2 ≤ 40000) (hz : z2 ≠ 0) (hX : z2.natAbs < X) : Calls Try.prog 72 #[a, b] w (DFPost w z1 z2 (max N1 N2 + 3)) := by
  obtain ⟨na, A, n, c, D, rfl, hd1, hs1, hn1, hz1⟩ := ha
  obtain ⟨nb, A2, m, c2, E, rfl, hd2, hs2, hn2, hz2⟩ := hb
  have hE0 : 0 < dv 4294967296 E := by
    rcases Nat.eq_zero_or_pos (dv 4294967296 E) with e | e
    · rw [e, sgn_zero] at hz2; exact absurd hz2 hz
    · exact e
  have hEX : dv 4294967296 E < X := by rw [hz2, sgn_abs] at hX; exact hX
  obtain ⟨W0, hW0⟩ : ∃ W, W = (((w.alloc (.cells #[.bool na, .slice A n c] 37)).alloc (.cells #[.bool nb, .slice A2 m c2] 37)).alloc (.cells #[.bool false, .slice none 0 0] 37)).alloc (.cells #[.bool false, .slice none 0 0] 37) := ⟨_, rfl⟩
  have HB := Lib.hid (show Below w.heap.size w W0 by rw [hW0]; exact ((((Below.refl _ w).alloc (Nat.le_refl _) _).alloc (by simp) _).alloc (by simp; omega) _).alloc (by simp; omega) _)
  have K2 := Lib.hid (show Blk W0 w.heap.size 37 #[.bool na, .slice A n c] by rw [hW0]; exact (((Blk.new _ _ _).alloc _).alloc _).alloc _)
  have K3 := Lib.hid (show Blk W0 (w.heap.size + 1) 37 #[.bool nb, .slice A2 m c2] by rw [hW0]; exact ((Blk.new_ (by simp) rfl : Blk ((w.alloc _).alloc _) _ _ _).alloc _).alloc _)
  have K4 := Lib.hid (show Blk W0 (w.heap.size + 1 + 1) 37 #[.bool false, .slice none 0 0] by rw [hW0]; exact (Blk.new_ (by simp) rfl : Blk (((w.alloc _).alloc _).alloc _) _ _ _).alloc _)
  have K5 := Lib.hid (show Blk W0 (w.heap.size + 1 + 1 + 1) 37 #[.bool false, .slice none 0 0] by rw [hW0]; exact Blk.new_ (by simp) rfl)
  have HDG1 := Lib.hid hd1
  have HDG2 := Lib.hid hd2
  have CT1 := Lib.hid (fun W (hW : Below W0.heap.size W0 W) => trim_any A n c D W ((hd1.below HB.out).below hW) hs1)
  have CT2 := Lib.hid (fun W (hW : Below W0.heap.size W0 W) => trim_any A2 m c2 E W ((hd2.below HB.out).below hW) hs2)
  have HZ1 := Lib.hid hz1
  have HZ2 := Lib.hid hz2
  have HL1 := hd1.1
  have HL2 := hd2.1
  have HDW := Lib.hid hd2
  have HS2 := Lib.hid hs2
  have HE0 := Lib.hid hE0
  have HEX := Lib.hid hEX
  clear hd1 hd2 hs1 hs2 hz1 hz2 hz hX hE0 hEX
  have K2_0 : W0.cell? ⟨w.heap.size, 0, none⟩ = some (.bool na) := K2.out.cell 0
  have K2_1 : W0.cell? ⟨w.heap.size, 1, none⟩ = some (.slice A n c) := K2.out.cell 1
  have K3_0 : W0.cell? ⟨w.heap.size + 1, 0, none⟩ = some (.bool nb) := K3.out.cell 0
  have K3_1 : W0.cell? ⟨w.heap.size + 1, 1, none⟩ = some (.slice A2 m c2) := K3.out.cell 1
  go_enter Try.func72, Try.ntmps72
  go_upto_region 1 with fail
  rw [← hW0]
  clear hW0
  go_wp2_with fail
  refine (CT2.out W0 (Below.refl _ _)).mono ?_
  rintro e w1 ⟨k2, rfl, ht2, rfl⟩
  have HT2 := Lib.hid ht2
  clear ht2
  have hk20 : ¬ k2 = 0 := by
    intro e
    subst e
    have h1 := HT2.out.dv
    rw [List.take_zero] at h1
    have h2 := HE0.out
    rw [← h1] at h2
    exact absurd h2 (by decide)
  have hk2f : ((k2 : Int) == 0) = false := by simp; omega
  go_wp2_with fail
  refine (CT1.out _ (Below.refl _ _)).mono ?_
  rintro e w2 ⟨k1, rfl, ht1, rfl⟩
  have HT1 := Lib.hid ht1
  clear ht1
  have HD1 := Lib.hid ((HDG1.out.below HB.out).take (show k1 ≤ n by have := HT1.out.1; omega))
  have HD2 := Lib.hid ((HDG2.out.below HB.out).take (show k2 ≤ m by have := HT2.out.1; omega))
  have hk1 : k1 ≤ N1 := by have := HT1.out.1; omega
  have hk2 : k2 ≤ N2 := by have := HT2.out.1; omega
  have CD := Lib.hid (DV A k1 c (D.take k1) A2 k2 c2 (E.take k2) _ HD1.out HD2.out HT1.out.nmz HT2.out.nmz (by omega) (by omega) (by rw [HT2.out.dv]; exact HE0.out) (by rw [HT2.out.dv]; exact HEX.out))
  clear hk20 HL1 HL2
  go_wp2_with fail
  refine CD.out.mono ?_
  rintro e w3 ⟨Aq, nq, cq, Q, Ar, nr, cr, R, rfl, hoq, hsq, hor, hsr, hlq, hlr, hvd, hvr, hb⟩
  rw [HT1.out.dv, HT2.out.dv] at hvd
  rw [HT2.out.dv] at hvr
  have HB3 := Lib.hid (HB.out.trans (hb.mono HB.out.size))
  have HOQ := Lib.hid hoq
  have HOR := Lib.hid hor
  have HSQ := Lib.hid hsq
  have HSR := Lib.hid hsr
  have HVD := Lib.hid hvd
  have HVR := Lib.hid hvr
  replace K2 := Lib.hid (K2.out.below hb)
  replace K3 := Lib.hid (K3.out.below hb)
  replace K4 := Lib.hid (K4.out.below hb)
  replace K5 := Lib.hid (K5.out.below hb)
  replace HDG2 := Lib.hid ((HDG2.out.below HB.out).below hb)
  clear hb hoq hor hsq hsr hvd hvr HD1 HD2 CT1 CT2 K2_0 K2_1 K3_0 K3_1
  have K2_0 : w3.cell? ⟨w.heap.size, 0, none⟩ = some (.bool na) := K2.out.cell 0
  have K2_1 : w3.cell? ⟨w.heap.size, 1, none⟩ = some (.slice A n c) := K2.out.cell 1
  have K3_0 : w3.cell? ⟨w.heap.size + 1, 0, none⟩ = some (.bool nb) := K3.out.cell 0
  have K3_1 : w3.cell? ⟨w.heap.size + 1, 1, none⟩ = some (.slice A2 m c2) := K3.out.cell 1
  have CS := Lib.hid (signed_any (na != nb) Aq nq cq Q _ w3 HOQ.out HSQ.out)
  go_wp2_with fail
  refine CS.out.mono ?_
  rintro e w4 ⟨v, rfl, hv, hb⟩
  have HVQ := Lib.hid (hv.mono HB.out.size hlq)
  have HB4 := Lib.hid (HB3.out.trans (hb.mono HB3.out.size))
  replace K2 := Lib.hid (K2.out.below hb)
  replace K3 := Lib.hid (K3.out.below hb)
  replace K4 := Lib.hid (K4.out.below hb)
  replace K5 := Lib.hid (K5.out.below hb)
  replace HDG2 := Lib.hid (HDG2.out.below hb)
  replace HOR := Lib.hid (HOR.out.below hb)
  clear hb hv K2_0 K2_1 K3_0 K3_1 CS CD
  obtain ⟨zq, hzq⟩ : ∃ z, sgn (na != nb) (dv 4294967296 Q) = z := ⟨_, rfl⟩
  rw [hzq] at HVQ
  have HZQ := Lib.hid hzq
  clear hzq
  obtain ⟨Aq2, nq2, cq2, Dq2, hevq2, hoq2, hsq2, hnq2, hvq2, hNq2⟩ := HVQ.out
  obtain ⟨sbq, hsbq⟩ : ∃ b, b = decide (zq < 0) := ⟨_, rfl⟩
  rw [← hsbq] at hevq2
  subst hevq2
  have HSBq2 := Lib.hid hsbq
  clear hsbq
  obtain ⟨W5, hW5⟩ : ∃ W, W = w4.alloc (.cells #[.bool sbq, .slice Aq2 nq2 cq2] 37) := ⟨_, rfl⟩
  obtain ⟨gq, hgq⟩ : ∃ g, w4.heap.size = g := ⟨_, rfl⟩
  have hal := (Below.refl w4.heap.size w4).alloc (Nat.le_refl _) (.cells #[.bool sbq, .slice Aq2 nq2 cq2] 37)
  rw [← hW5] at hal
  have KQ := Lib.hid (show Blk W5 gq 37 #[.bool sbq, .slice Aq2 nq2 cq2] by rw [hW5, ← hgq]; exact Blk.new _ _ _)
  have HB5 := Lib.hid (HB4.out.trans (hal.mono HB4.out.size))
  have HGQ := Lib.hid (show w.heap.size + 4 ≤ gq by rw [← hgq]; exact (K5.out.lt : _ < _))
  have HNQ := Lib.hid (show NB W5 w.heap.size (.agg #[.bool sbq, .slice Aq2 nq2 cq2]) zq (max N1 N2) from NB.below ⟨Aq2, nq2, cq2, Dq2, by rw [HSBq2.out], hoq2, hsq2, hnq2, hvq2, by omega⟩ hal)
  replace K2 := Lib.hid (K2.out.below hal)
  replace K3 := Lib.hid (K3.out.below hal)
  replace K4 := Lib.hid (K4.out.below hal)
  replace K5 := Lib.hid (K5.out.below hal)
  replace HDG2 := Lib.hid (HDG2.out.below hal)
  replace HOR := Lib.hid (HOR.out.below hal)
  have CS := Lib.hid (signed_any na Ar nr cr R _ W5 HOR.out HSR.out)
  clear hal hoq2 hsq2 hnq2 hvq2 hNq2
  have K2_0 : W5.cell? ⟨w.heap.size, 0, none⟩ = some (.bool na) := K2.out.cell 0
  have K2_1 : W5.cell? ⟨w.heap.size, 1, none⟩ = some (.slice A n c) := K2.out.cell 1
  have K3_0 : W5.cell? ⟨w.heap.size + 1, 0, none⟩ = some (.bool nb) := K3.out.cell 0
  have K3_1 : W5.cell? ⟨w.heap.size + 1, 1, none⟩ = some (.slice A2 m c2) := K3.out.cell 1
  rw [hW5] at K2_0 K2_1 K3_0 K3_1
  go_wp2_with fail
  rw [← hW5]
  clear hW5 hgq
  refine CS.out.mono ?_
  rintro e w6 ⟨v, rfl, hv, hb⟩
  have HVR2 := Lib.hid (hv.mono HB.out.size hlr)
  have HB6 := Lib.hid (HB5.out.trans (hb.mono HB5.out.size))
  replace K2 := Lib.hid (K2.out.below hb)
  replace K3 := Lib.hid (K3.out.below hb)
  replace K4 := Lib.hid (K4.out.below hb)
  replace K5 := Lib.hid (K5.out.below hb)
  replace KQ := Lib.hid (KQ.out.below hb)
  replace HDG2 := Lib.hid (HDG2.out.below hb)
  replace HNQ := Lib.hid (HNQ.out.below hb)
  clear hb hv K2_0 K2_1 K3_0 K3_1 CS HOR
  obtain ⟨zr, hzr⟩ : ∃ z, sgn na (dv 4294967296 R) = z := ⟨_, rfl⟩
  rw [hzr] at HVR2
  have HZR := Lib.hid hzr
  clear hzr
  obtain ⟨Ar2, nr2, cr2, Dr2, hevr2, hor2, hsr2, hnr2, hvr2, hNr2⟩ := HVR2.out
  obtain ⟨sbr2, hsbr2⟩ : ∃ b, b = decide (zr < 0) := ⟨_, rfl⟩
  rw [← hsbr2] at hevr2
  subst hevr2
  have HSBr2 := Lib.hid hsbr2
  clear hsbr2
  obtain ⟨W7, hW7⟩ : ∃ W, W = w6.alloc (.cells #[.bool sbr2, .slice Ar2 nr2 cr2] 37) := ⟨_, rfl⟩
  obtain ⟨gr, hgr⟩ : ∃ g, w6.heap.size = g := ⟨_, rfl⟩
  have hal := (Below.refl w6.heap.size w6).alloc (Nat.le_refl _) (.cells #[.bool sbr2, .slice Ar2 nr2 cr2] 37)
  rw [← hW7] at hal
  have KR := Lib.hid (show Blk W7 gr 37 #[.bool sbr2, .slice Ar2 nr2 cr2] by rw [hW7, ← hgr]; exact Blk.new _ _ _)
  have HB7 := Lib.hid (HB6.out.trans (hal.mono HB6.out.size))
  have HGR := Lib.hid (show gq < gr by rw [← hgr]; exact KQ.out.lt)
  have HNR := Lib.hid (show NB W7 w.heap.size (.agg #[.bool sbr2, .slice Ar2 nr2 cr2]) zr (max N1 N2) from NB.below ⟨Ar2, nr2, cr2, Dr2, by rw [HSBr2.out], hor2, hsr2, hnr2, hvr2, by omega⟩ hal)
  have HNZ := Lib.hid (show (nr2 : Int) > 0 ↔ dv 4294967296 R ≠ 0 from by
    have h1 := nmz_zero (B := 4294967296) (by decide) Dr2 hnr2
    have h2 := hor2.1
    have h3 := sgn_abs na (dv 4294967296 R)
    rw [HZR.out] at h3
    rw [hvr2, h3] at h1
    constructor
    · intro h e
      have := congrArg List.length (h1.1 e)
      rw [List.length_nil] at this
      omega
    · intro h
      rcases Nat.eq_zero_or_pos nr2 with e | e
      · exact absurd (h1.2 (List.eq_nil_of_length_eq_zero (by omega))) h
      · omega)
  replace K2 := Lib.hid (K2.out.below hal)
  replace K3 := Lib.hid (K3.out.below hal)
  replace K4 := Lib.hid (K4.out.below hal)
  replace K5 := Lib.hid (K5.out.below hal)
  replace KQ := Lib.hid (KQ.out.below hal)
  replace HDG2 := Lib.hid (HDG2.out.below hal)
  replace HNQ := Lib.hid (HNQ.out.below hal)
  clear hal hor2 hsr2 hnr2 hvr2 hNr2
  have K2_0 : W7.cell? ⟨w.heap.size, 0, none⟩ = some (.bool na) := K2.out.cell 0
  have K2_1 : W7.cell? ⟨w.heap.size, 1, none⟩ = some (.slice A n c) := K2.out.cell 1
  have K3_0 : W7.cell? ⟨w.heap.size + 1, 0, none⟩ = some (.bool nb) := K3.out.cell 0
  have K3_1 : W7.cell? ⟨w.heap.size + 1, 1, none⟩ = some (.slice A2 m c2) := K3.out.cell 1
  have KR_0 : W7.cell? ⟨gr, 0, none⟩ = some (.bool sbr2) := KR.out.cell 0
  have KR_1 : W7.cell? ⟨gr, 1, none⟩ = some (.slice Ar2 nr2 cr2) := KR.out.cell 1
  have KQ_0 : W7.cell? ⟨gq, 0, none⟩ = some (.bool sbq) := KQ.out.cell 0
  have KQ_1 : W7.cell? ⟨gq, 1, none⟩ = some (.slice Aq2 nq2 cq2) := KQ.out.cell 1
  go_upto_region 7 with fail
  rw [← hW7]
  clear hW7 hgr
  by_cases hp : (nr2 : Int) > 0
  · have hR0 := HNZ.out.1 hp
    by_cases hnn : na = nb
    · subst hnn
      have hbb : (na == na) = true := by simp
      have HQR := Lib.hid (show QR z1 z2 zq zr from by
        have h1 := qr_same (s := na) HVD.out HVR.out
        rw [← HZ1.out, ← HZ2.out, HZR.out] at h1
        have h2 := HZQ.out
        simp [sgn] at h2
        rwa [h2] at h1)
      go_upto_region 10 with fail
      have F4 : ∀ j, W7.frozen? ⟨w.heap.size + 1 + 1, j, none⟩ = false := fun j => Joins.unfrozen_of_block K4.out _
      have K4_0 : W7.cell? ⟨w.heap.size + 1 + 1, 0, none⟩ = some (.bool false) := K4.out.cell 0
      have K4_1 : W7.cell? ⟨w.heap.size + 1 + 1, 1, none⟩ = some (.slice none 0 0) := K4.out.cell 1
      obtain ⟨W8, hW8⟩ : ∃ W, W = (W7.setCell ⟨w.heap.size + 1 + 1, 0, none⟩ (.bool sbq)).setCell ⟨w.heap.size + 1 + 1, 1, none⟩ (.slice Aq2 nq2 cq2) := ⟨_, rfl⟩
      have s1 := store_step K4.out 0 (.bool sbq)
      have s2 := store_step s1.1 1 (.slice Aq2 nq2 cq2)
      rw [← hW8] at s2
      have M4 : Blk W8 (w.heap.size + 1 + 1) 37 #[.bool sbq, .slice Aq2 nq2 cq2] := s2.1
      have M5 : Blk W8 (w.heap.size + 1 + 1 + 1) 37 #[.bool false, .slice none 0 0] := s2.2.1 _ _ _ (by omega) (s1.2.1 _ _ _ (by omega) K5.out)
      have MR : Blk W8 gr 37 #[.bool sbr2, .slice Ar2 nr2 cr2] := s2.2.1 _ _ _ (by have := HGR.out; have := HGQ.out; omega) (s1.2.1 _ _ _ (by have := HGR.out; have := HGQ.out; omega) KR.out)
      have KR_0' : W8.cell? ⟨gr, 0, none⟩ = some (.bool sbr2) := MR.cell 0
      have KR_1' : W8.cell? ⟨gr, 1, none⟩ = some (.slice Ar2 nr2 cr2) := MR.cell 1
      have F5 : ∀ j, W8.frozen? ⟨w.heap.size + 1 + 1 + 1, j, none⟩ = false := fun j => Joins.unfrozen_of_block M5 _
      have K5_0 : W8.cell? ⟨w.heap.size + 1 + 1 + 1, 0, none⟩ = some (.bool false) := M5.cell 0
      have K5_1 : W8.cell? ⟨w.heap.size + 1 + 1 + 1, 1, none⟩ = some (.slice none 0 0) := M5.cell 1
      obtain ⟨W9, hW9⟩ : ∃ W, W = (W8.setCell ⟨w.heap.size + 1 + 1 + 1, 0, none⟩ (.bool sbr2)).setCell ⟨w.heap.size + 1 + 1 + 1, 1, none⟩ (.slice Ar2 nr2 cr2) := ⟨_, rfl⟩
      have s3 := store_step M5 0 (.bool sbr2)
      have s4 := store_step s3.1 1 (.slice Ar2 nr2 cr2)
      rw [← hW9] at s4
      have P5 : Blk W9 (w.heap.size + 1 + 1 + 1) 37 #[.bool sbr2, .slice Ar2 nr2 cr2] := s4.1
      have P4 : Blk W9 (w.heap.size + 1 + 1) 37 #[.bool sbq, .slice Aq2 nq2 cq2] := s4.2.1 _ _ _ (by omega) (s3.2.1 _ _ _ (by omega) M4)
      have HP4 := Lib.hid P4
      have HP5 := Lib.hid P5
      have HBE := Lib.hid (s4.2.2 _ _ (s3.2.2 _ _ (s2.2.2 _ _ (s1.2.2 _ _ HB7.out (by omega)) (by omega)) (by omega)) (by omega))
      have NQ := Lib.hid ((((HNQ.out.cellset K4.out 0 (.bool sbq)).cellset s1.1 1 (.slice Aq2 nq2 cq2)) : NB _ _ _ _ _))
      have NR := Lib.hid ((((HNR.out.cellset K4.out 0 (.bool sbq)).cellset s1.1 1 (.slice Aq2 nq2 cq2)) : NB _ _ _ _ _))
      rw [← hW8] at NQ NR
      replace NQ := Lib.hid ((NQ.out.cellset M5 0 (.bool sbr2)).cellset s3.1 1 (.slice Ar2 nr2 cr2))
      replace NR := Lib.hid ((NR.out.cellset M5 0 (.bool sbr2)).cellset s3.1 1 (.slice Ar2 nr2 cr2))
      rw [← hW9] at NQ NR
      rw [hW8] at KR_0' KR_1' F5 K5_0 K5_1 hW9
      clear s1 s2 s3 s4 M4 M5 MR P4 P5
      go_region
      all_goals
        first
        | (rw [← hW9]
           go_wp2_with fail
           refine bodyPost_ret (results_c3 rfl _ _ _ (w.heap.size + 1 + 1) (w.heap.size + 1 + 1 + 1) _ _ rfl rfl (load24 HP4.out rfl) (load24 HP5.out rfl)) rfl ?_
           exact ⟨_, _, _, _, rfl, NQ.out.mono (Nat.le_refl _) (by omega), NR.out.mono (Nat.le_refl _) (by omega), HQR.out, (by first | exact HBE.out | exact below_drew HBE.out)⟩)
        | (subst hW9
           go_wp2_with fail
           refine bodyPost_ret (results_c3 rfl _ _ _ (w.heap.size + 1 + 1) (w.heap.size + 1 + 1 + 1) _ _ rfl rfl (load24 HP4.out rfl) (load24 HP5.out rfl)) rfl ?_
           exact ⟨_, _, _, _, rfl, NQ.out.mono (Nat.le_refl _) (by omega), NR.out.mono (Nat.le_refl _) (by omega), HQR.out, (by first | exact HBE.out | exact below_drew HBE.out)⟩)
    · have hbb : (na == nb) = false := by simpa using hnn
      have HQR := Lib.hid (show QR z1 z2 (zq - 1) (zr + z2) from by
        have h1 := qr_diff HVD.out HVR.out hR0 hnn
        have h2 := HZQ.out
        rw [show (na != nb) = true from by simpa using hnn] at h2
        simp only [sgn, if_pos] at h2
        have h3 := HZ2.out
        rw [← HZ1.out, ← h3, HZR.out, h2] at h1
        exact h1)
      go_upto_region 8 with fail
      have hx0 : Below W7.heap.size W7 W7.drew := below_drew (Below.refl _ _)
      refine wp_region_mix 3 (fun w' => Below W7.heap.size W7 w') (by kernel_rfl) (by decide) ?_
      generalize W7.drew = x0 at hx0 ⊢
      refine wpM_take (i := 0) (oi := ⟨some 50, _, _, _, _, _⟩) (v := ?_) rfl (by decide +kernel) (by decide +kernel) (by decide +kernel) (fun _ _ _ h => h) (Or.inl ⟨by rfl, ?_⟩) hx0 ?_
      case refine_2 =>
        intro w' hSw
        have KQ_0' := keepcell hSw KQ_0
        have KQ_1' := keepcell hSw KQ_1
        go_simp
        try (with_reducible rfl)
      try simp only [Act.put, List.setIfInBounds_toArray, List.set_cons_zero, List.set_cons_succ]
      refine wpM_step (i := 1) (o := ⟨some 51, _, _, _, _, _⟩) rfl (by decide +kernel) (by decide) (fun K hK => ?_)
      go_simp
      refine (Of_any 1 x0 (by decide) (by decide)).mono ?_
      rintro e x1 ⟨v1, rfl, hnb1, hc⟩
      have hx1 : Below W7.heap.size W7 x1 := hx0.trans (hc.mono hx0.size)
      have HV1 := Lib.hid hnb1
      clear hnb1
      clear hc
      refine hK.out _ _ hx1 ?_
      clear hK K
      try simp only [Act.put, List.setIfInBounds_toArray, List.set_cons_zero, List.set_cons_succ]
      refine wpM_step (i := 2) (o := ⟨some 52, _, _, _, _, _⟩) rfl (by decide +kernel) (by decide) (fun K hK => ?_)
      go_simp
      refine (Sub_any (.agg #[.bool sbq, .slice Aq2 nq2 cq2]) v1 zq 1 (max N1 N2) 2 x1 (HNQ.out.below hx1).bg HV1.out.bg (by omega) (by omega)).mono ?_
      rintro e x2 ⟨v2, rfl, hnb2, hc⟩
      have hx2 : Below W7.heap.size W7 x2 := hx1.trans (hc.mono hx1.size)
      have HV2 := Lib.hid hnb2
      clear hnb2
      clear hc
      refine hK.out _ _ hx2 ?_
      clear hK K
      try simp only [Act.put, List.setIfInBounds_toArray, List.set_cons_zero, List.set_cons_succ]
      refine wpM_done (by decide +kernel) ?_
      simp only [List.drop_succ_cons, List.drop_zero]
      have HGB := Lib.hid (show w.heap.size ≤ x1.heap.size from Nat.le_trans HB7.out.size hx1.size)
      replace HV2 := Lib.hid (HV2.out.mono HGB.out (show _ ≤ max N1 N2 + 3 by omega))
      obtain ⟨Aq3, nq3, cq3, Dq3, hevq3, hoq3, hsq3, hnq3, hvq3, hNq3⟩ := HV2.out
      obtain ⟨sbq3, hsbq3⟩ : ∃ b, b = decide ((zq - 1) < 0) := ⟨_, rfl⟩
      rw [← hsbq3] at hevq3
      subst hevq3
      have HSBq3 := Lib.hid hsbq3
      clear hsbq3
      have HB8 := Lib.hid (HB7.out.trans (hx2.mono HB7.out.size))
      replace KQ := Lib.hid (KQ.out.below hx2)
      have KRx := Lib.hid (KR.out.below hx2)
      have K3x := Lib.hid (K3.out.below hx2)
      have K4x := Lib.hid (K4.out.below hx2)
      have K5x := Lib.hid (K5.out.below hx2)
      have HNRx := Lib.hid (HNR.out.below hx2)
      obtain ⟨W8, hW8⟩ : ∃ W, W = x2.setRow gq #[.bool sbq3, .slice Aq3 nq3 cq3] := ⟨_, rfl⟩
      have RO := Lib.hid (fun g cs (h : g ≠ gq) (hb : Blk x2 g 37 cs) => show Blk W8 g 37 cs from by rw [hW8]; exact (setRow_other x2 gq g _ h).trans hb)
      have KQ9 := Lib.hid (show Blk W8 gq 37 #[.bool sbq3, .slice Aq3 nq3 cq3] by rw [hW8]; exact KQ.out.setRow)
      have KR9 := Lib.hid (RO.out gr _ (by have := HGR.out; omega) KRx.out)
      have K39 := Lib.hid (RO.out (w.heap.size + 1) _ (by have := HGQ.out; omega) K3x.out)
      have K49 := Lib.hid (RO.out (w.heap.size + 1 + 1) _ (by have := HGQ.out; omega) K4x.out)
      have K59 := Lib.hid (RO.out (w.heap.size + 1 + 1 + 1) _ (by have := HGQ.out; omega) K5x.out)
      have HNQ9 := Lib.hid (show NB W8 w.heap.size (.agg #[.bool sbq3, .slice Aq3 nq3 cq3]) (zq - 1) (max N1 N2 + 3) by rw [hW8]; exact NB.row ⟨Aq3, nq3, cq3, Dq3, by rw [HSBq3.out], hoq3, hsq3, hnq3, hvq3, hNq3⟩ KQ.out _)
      have HNR9 := Lib.hid (show NB W8 w.heap.size (.agg #[.bool sbr2, .slice Ar2 nr2 cr2]) zr (max N1 N2) by rw [hW8]; exact NB.row HNRx.out KQ.out _)
      have HB9 := Lib.hid (show Below w.heap.size w W8 by rw [hW8]; exact HB8.out.grown (grown_row _ gq _) HB8.out.size (fun j hj => by injection hj with hj; have := HGQ.out; omega))
      have CA := Lib.hid (Add_any (.agg #[.bool sbr2, .slice Ar2 nr2 cr2]) (.agg #[.bool nb, .slice A2 m c2]) zr z2 (max N1 N2) N2 W8 HNR9.out.bg ⟨_, _, _, _, E, rfl, HDW.out.below HB9.out, HS2.out, hn2, HZ2.out⟩ (by omega) (by omega))
      have KR9_0 : W8.cell? ⟨gr, 0, none⟩ = some (.bool sbr2) := KR9.out.cell 0
      have KR9_1 : W8.cell? ⟨gr, 1, none⟩ = some (.slice Ar2 nr2 cr2) := KR9.out.cell 1
      have K39_0 : W8.cell? ⟨w.heap.size + 1, 0, none⟩ = some (.bool nb) := K39.out.cell 0
      have K39_1 : W8.cell? ⟨w.heap.size + 1, 1, none⟩ = some (.slice A2 m c2) := K39.out.cell 1
      rw [hW8] at KR9_0 KR9_1 K39_0 K39_1
      clear hoq3 hsq3 hnq3 hvq3 hNq3 HNRx KRx K3x K4x K5x hx0 hx1 hx2 HV1 KQ_0 KQ_1 KR_0 KR_1 K2_0 K2_1 K3_0 K3_1 HNQ HNR KR K3 K4 K5
      go_wp2_with ((refine wpList_store_row (o := ⟨none, _, _, _, _, _⟩) rfl 37 _ _ rfl gq #[.bool sbq3, .slice Aq3 nq3 cq3] rfl rfl 37 _ KQ.out (by kernel_rfl) rfl (by simp [Value.oneCell']) ?_))
      rw [← hW8]
      clear hW8 KR9_0 KR9_1 K39_0 K39_1 KQ
      refine CA.out.mono ?_
      rintro e w9 ⟨v3, rfl, hv3, hb⟩
      have HV3 := Lib.hid (hv3.mono HB9.out.size (show _ ≤ max N1 N2 + 3 by omega))
      have HBa := Lib.hid (HB9.out.trans (hb.mono HB9.out.size))
      replace KQ9 := Lib.hid (KQ9.out.below hb)
      replace KR9 := Lib.hid (KR9.out.below hb)
      replace K49 := Lib.hid (K49.out.below hb)
      replace K59 := Lib.hid (K59.out.below hb)
      replace HNQ9 := Lib.hid (HNQ9.out.below hb)
      clear hb hv3 CA
      obtain ⟨Ar3, nr3, cr3, Dr3, hevr3, hor3, hsr3, hnr3, hvr3, hNr3⟩ := HV3.out
      obtain ⟨sbr3, hsbr3⟩ : ∃ b, b = decide ((zr + z2) < 0) := ⟨_, rfl⟩
      rw [← hsbr3] at hevr3
      subst hevr3
      have HSBr3 := Lib.hid hsbr3
      clear hsbr3
      obtain ⟨Wa, hWa⟩ : ∃ W, W = w9.setRow gr #[.bool sbr3, .slice Ar3 nr3 cr3] := ⟨_, rfl⟩
      have ROa := Lib.hid (fun g cs (h : g ≠ gr) (hb : Blk w9 g 37 cs) => show Blk Wa g 37 cs from by rw [hWa]; exact (setRow_other w9 gr g _ h).trans hb)
      have KR := Lib.hid (show Blk Wa gr 37 #[.bool sbr3, .slice Ar3 nr3 cr3] by rw [hWa]; exact KR9.out.setRow)
      have KQ := Lib.hid (ROa.out gq _ (by have := HGR.out; omega) KQ9.out)
      have K4 := Lib.hid (ROa.out (w.heap.size + 1 + 1) _ (by have := HGR.out; have := HGQ.out; omega) K49.out)
      have K5 := Lib.hid (ROa.out (w.heap.size + 1 + 1 + 1) _ (by have := HGR.out; have := HGQ.out; omega) K59.out)
      have HNR := Lib.hid (show NB Wa w.heap.size (.agg #[.bool sbr3, .slice Ar3 nr3 cr3]) (zr + z2) (max N1 N2 + 3) by rw [hWa]; exact NB.row ⟨Ar3, nr3, cr3, Dr3, by rw [HSBr3.out], hor3, hsr3, hnr3, hvr3, hNr3⟩ KR9.out _)
      have HNQ := Lib.hid (show NB Wa w.heap.size (.agg #[.bool sbq3, .slice Aq3 nq3 cq3]) (zq - 1) (max N1 N2 + 3) by rw [hWa]; exact NB.row HNQ9.out KR9.out _)
      replace HB7 := Lib.hid (show Below w.heap.size w Wa by rw [hWa]; exact HBa.out.grown (grown_row _ gr _) HBa.out.size (fun j hj => by injection hj with hj; have := HGR.out; have := HGQ.out; omega))
      have KR_0 : Wa.cell? ⟨gr, 0, none⟩ = some (.bool sbr3) := KR.out.cell 0
      have KR_1 : Wa.cell? ⟨gr, 1, none⟩ = some (.slice Ar3 nr3 cr3) := KR.out.cell 1
      have KQ_0 : Wa.cell? ⟨gq, 0, none⟩ = some (.bool sbq3) := KQ.out.cell 0
      have KQ_1 : Wa.cell? ⟨gq, 1, none⟩ = some (.slice Aq3 nq3 cq3) := KQ.out.cell 1
      clear hor3 hsr3 hnr3 hvr3 hNr3
      go_upto_region 10 with (refine wpList_store_row (o := ⟨none, _, _, _, _, _⟩) rfl 37 _ _ rfl gr #[.bool sbr3, .slice Ar3 nr3 cr3] rfl rfl 37 _ KR9.out (by kernel_rfl) rfl (by simp [Value.oneCell']) ?_)
      rw [← hWa]
      clear hWa
      have F4 : ∀ j, Wa.frozen? ⟨w.heap.size + 1 + 1, j, none⟩ = false := fun j => Joins.unfrozen_of_block K4.out _
      have K4_0 : Wa.cell? ⟨w.heap.size + 1 + 1, 0, none⟩ = some (.bool false) := K4.out.cell 0
      have K4_1 : Wa.cell? ⟨w.heap.size + 1 + 1, 1, none⟩ = some (.slice none 0 0) := K4.out.cell 1
      obtain ⟨Wb, hWb⟩ : ∃ W, W = (Wa.setCell ⟨w.heap.size + 1 + 1, 0, none⟩ (.bool sbq3)).setCell ⟨w.heap.size + 1 + 1, 1, none⟩ (.slice Aq3 nq3 cq3) := ⟨_, rfl⟩
      have s1 := store_step K4.out 0 (.bool sbq3)
      have s2 := store_step s1.1 1 (.slice Aq3 nq3 cq3)
      rw [← hWb] at s2
      have M4 : Blk Wb (w.heap.size + 1 + 1) 37 #[.bool sbq3, .slice Aq3 nq3 cq3] := s2.1
      have M5 : Blk Wb (w.heap.size + 1 + 1 + 1) 37 #[.bool false, .slice none 0 0] := s2.2.1 _ _ _ (by omega) (s1.2.1 _ _ _ (by omega) K5.out)
      have MR : Blk Wb gr 37 #[.bool sbr3, .slice Ar3 nr3 cr3] := s2.2.1 _ _ _ (by have := HGR.out; have := HGQ.out; omega) (s1.2.1 _ _ _ (by have := HGR.out; have := HGQ.out; omega) KR.out)
      have KR_0' : Wb.cell? ⟨gr, 0, none⟩ = some (.bool sbr3) := MR.cell 0
      have KR_1' : Wb.cell? ⟨gr, 1, none⟩ = some (.slice Ar3 nr3 cr3) := MR.cell 1
      have F5 : ∀ j, Wb.frozen? ⟨w.heap.size + 1 + 1 + 1, j, none⟩ = false := fun j => Joins.unfrozen_of_block M5 _
      have K5_0 : Wb.cell? ⟨w.heap.size + 1 + 1 + 1, 0, none⟩ = some (.bool false) := M5.cell 0
      have K5_1 : Wb.cell? ⟨w.heap.size + 1 + 1 + 1, 1, none⟩ = some (.slice none 0 0) := M5.cell 1
      obtain ⟨Wc, hWc⟩ : ∃ W, W = (Wb.setCell ⟨w.heap.size + 1 + 1 + 1, 0, none⟩ (.bool sbr3)).setCell ⟨w.heap.size + 1 + 1 + 1, 1, none⟩ (.slice Ar3 nr3 cr3) := ⟨_, rfl⟩
      have s3 := store_step M5 0 (.bool sbr3)
      have s4 := store_step s3.1 1 (.slice Ar3 nr3 cr3)
      rw [← hWc] at s4
      have P5 : Blk Wc (w.heap.size + 1 + 1 + 1) 37 #[.bool sbr3, .slice Ar3 nr3 cr3] := s4.1
      have P4 : Blk Wc (w.heap.size + 1 + 1) 37 #[.bool sbq3, .slice Aq3 nq3 cq3] := s4.2.1 _ _ _ (by omega) (s3.2.1 _ _ _ (by omega) M4)
      have HP4 := Lib.hid P4
      have HP5 := Lib.hid P5
      have HBE := Lib.hid (s4.2.2 _ _ (s3.2.2 _ _ (s2.2.2 _ _ (s1.2.2 _ _ HB7.out (by omega)) (by omega)) (by omega)) (by omega))
      have NQ := Lib.hid ((((HNQ.out.cellset K4.out 0 (.bool sbq3)).cellset s1.1 1 (.slice Aq3 nq3 cq3)) : NB _ _ _ _ _))
      have NR := Lib.hid ((((HNR.out.cellset K4.out 0 (.bool sbq3)).cellset s1.1 1 (.slice Aq3 nq3 cq3)) : NB _ _ _ _ _))
      rw [← hWb] at NQ NR
      replace NQ := Lib.hid ((NQ.out.cellset M5 0 (.bool sbr3)).cellset s3.1 1 (.slice Ar3 nr3 cr3))
      replace NR := Lib.hid ((NR.out.cellset M5 0 (.bool sbr3)).cellset s3.1 1 (.slice Ar3 nr3 cr3))
      rw [← hWc] at NQ NR
      rw [hWb] at KR_0' KR_1' F5 K5_0 K5_1 hWc
      clear s1 s2 s3 s4 M4 M5 MR P4 P5
      go_region
      all_goals
        first
        | (rw [← hWc]
           go_wp2_with fail
           refine bodyPost_ret (results_c3 rfl _ _ _ (w.heap.size + 1 + 1) (w.heap.size + 1 + 1 + 1) _ _ rfl rfl (load24 HP4.out rfl) (load24 HP5.out rfl)) rfl ?_
           exact ⟨_, _, _, _, rfl, NQ.out.mono (Nat.le_refl _) (by omega), NR.out.mono (Nat.le_refl _) (by omega), HQR.out, (by first | exact HBE.out | exact below_drew HBE.out)⟩)
        | (subst hWc
           go_wp2_with fail
           refine bodyPost_ret (results_c3 rfl _ _ _ (w.heap.size + 1 + 1) (w.heap.size + 1 + 1 + 1) _ _ rfl rfl (load24 HP4.out rfl) (load24 HP5.out rfl)) rfl ?_
           exact ⟨_, _, _, _, rfl, NQ.out.mono (Nat.le_refl _) (by omega), NR.out.mono (Nat.le_refl _) (by omega), HQR.out, (by first | exact HBE.out | exact below_drew HBE.out)⟩)
  · have HQR := Lib.hid (show QR z1 z2 zq zr from by
      have hR0 : dv 4294967296 R = 0 := by
        rcases Nat.eq_zero_or_pos (dv 4294967296 R) with e | e
        · exact e
        · exact absurd (HNZ.out.2 (by omega)) hp
      have h2 := HZQ.out
      have h4 := HZR.out
      have h5 := HVD.out
      rw [hR0, sgn_zero] at h4
      rw [hR0] at h5
      rw [← h4]
      by_cases hnn : na = nb
      · subst hnn
        have h1 := qr_same (s := na) h5 HE0.out
        rw [← HZ1.out, ← HZ2.out, sgn_zero] at h1
        simp [sgn] at h2
        rwa [h2] at h1
      · have h1 := qr_zero h5 HE0.out hnn
        rw [show (na != nb) = true from by simpa using hnn] at h2
        simp only [sgn, if_pos] at h2
        rw [← HZ1.out, ← HZ2.out, h2] at h1
        exact h1)
    go_upto_region 10 with fail
    have F4 : ∀ j, W7.frozen? ⟨w.heap.size + 1 + 1, j, none⟩ = false := fun j => Joins.unfrozen_of_block K4.out _
    have K4_0 : W7.cell? ⟨w.heap.size + 1 + 1, 0, none⟩ = some (.bool false) := K4.out.cell 0
    have K4_1 : W7.cell? ⟨w.heap.size + 1 + 1, 1, none⟩ = some (.slice none 0 0) := K4.out.cell 1
    obtain ⟨W8, hW8⟩ : ∃ W, W = (W7.setCell ⟨w.heap.size + 1 + 1, 0, none⟩ (.bool sbq)).setCell ⟨w.heap.size + 1 + 1, 1, none⟩ (.slice Aq2 nq2 cq2) := ⟨_, rfl⟩
    have s1 := store_step K4.out 0 (.bool sbq)
    have s2 := store_step s1.1 1 (.slice Aq2 nq2 cq2)
    rw [← hW8] at s2
    have M4 : Blk W8 (w.heap.size + 1 + 1) 37 #[.bool sbq, .slice Aq2 nq2 cq2] := s2.1
    have M5 : Blk W8 (w.heap.size + 1 + 1 + 1) 37 #[.bool false, .slice none 0 0] := s2.2.1 _ _ _ (by omega) (s1.2.1 _ _ _ (by omega) K5.out)
    have MR : Blk W8 gr 37 #[.bool sbr2, .slice Ar2 nr2 cr2] := s2.2.1 _ _ _ (by have := HGR.out; have := HGQ.out; omega) (s1.2.1 _ _ _ (by have := HGR.out; have := HGQ.out; omega) KR.out)
    have KR_0' : W8.cell? ⟨gr, 0, none⟩ = some (.bool sbr2) := MR.cell 0
    have KR_1' : W8.cell? ⟨gr, 1, none⟩ = some (.slice Ar2 nr2 cr2) := MR.cell 1
    have F5 : ∀ j, W8.frozen? ⟨w.heap.size + 1 + 1 + 1, j, none⟩ = false := fun j => Joins.unfrozen_of_block M5 _
    have K5_0 : W8.cell? ⟨w.heap.size + 1 + 1 + 1, 0, none⟩ = some (.bool false) := M5.cell 0
    have K5_1 : W8.cell? ⟨w.heap.size + 1 + 1 + 1, 1, none⟩ = some (.slice none 0 0) := M5.cell 1
    obtain ⟨W9, hW9⟩ : ∃ W, W = (W8.setCell ⟨w.heap.size + 1 + 1 + 1, 0, none⟩ (.bool sbr2)).setCell ⟨w.heap.size + 1 + 1 + 1, 1, none⟩ (.slice Ar2 nr2 cr2) := ⟨_, rfl⟩
    have s3 := store_step M5 0 (.bool sbr2)
    have s4 := store_step s3.1 1 (.slice Ar2 nr2 cr2)
    rw [← hW9] at s4
    have P5 : Blk W9 (w.heap.size + 1 + 1 + 1) 37 #[.bool sbr2, .slice Ar2 nr2 cr2] := s4.1
    have P4 : Blk W9 (w.heap.size + 1 + 1) 37 #[.bool sbq, .slice Aq2 nq2 cq2] := s4.2.1 _ _ _ (by omega) (s3.2.1 _ _ _ (by omega) M4)
    have HP4 := Lib.hid P4
    have HP5 := Lib.hid P5
    have HBE := Lib.hid (s4.2.2 _ _ (s3.2.2 _ _ (s2.2.2 _ _ (s1.2.2 _ _ HB7.out (by omega)) (by omega)) (by omega)) (by omega))
    have NQ := Lib.hid ((((HNQ.out.cellset K4.out 0 (.bool sbq)).cellset s1.1 1 (.slice Aq2 nq2 cq2)) : NB _ _ _ _ _))
    have NR := Lib.hid ((((HNR.out.cellset K4.out 0 (.bool sbq)).cellset s1.1 1 (.slice Aq2 nq2 cq2)) : NB _ _ _ _ _))
    rw [← hW8] at NQ NR
    replace NQ := Lib.hid ((NQ.out.cellset M5 0 (.bool sbr2)).cellset s3.1 1 (.slice Ar2 nr2 cr2))
    replace NR := Lib.hid ((NR.out.cellset M5 0 (.bool sbr2)).cellset s3.1 1 (.slice Ar2 nr2 cr2))
    rw [← hW9] at NQ NR
    rw [hW8] at KR_0' KR_1' F5 K5_0 K5_1 hW9
    clear s1 s2 s3 s4 M4 M5 MR P4 P5
    go_region
    all_goals
      first
      | (rw [← hW9]
         go_wp2_with fail
         refine bodyPost_ret (results_c3 rfl _ _ _ (w.heap.size + 1 + 1) (w.heap.size + 1 + 1 + 1) _ _ rfl rfl (load24 HP4.out rfl) (load24 HP5.out rfl)) rfl ?_
         exact ⟨_, _, _, _, rfl, NQ.out.mono (Nat.le_refl _) (by omega), NR.out.mono (Nat.le_refl _) (by omega), HQR.out, (by first | exact HBE.out | exact below_drew HBE.out)⟩)
      | (subst hW9
         go_wp2_with fail
         refine bodyPost_ret (results_c3 rfl _ _ _ (w.heap.size + 1 + 1) (w.heap.size + 1 + 1 + 1) _ _ rfl rfl (load24 HP4.out rfl) (load24 HP5.out rfl)) rfl ?_
         exact ⟨_, _, _, _, rfl, NQ.out.mono (Nat.le_refl _) (by omega), NR.out.mono (Nat.le_refl _) (by omega), HQR.out, (by first | exact HBE.out | exact below_drew HBE.out)⟩)
end Go.Proofs.Ythfolccofjaknaa
