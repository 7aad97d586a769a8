/- The sum of two integers. -/
import Derived.Test.YtndkcimdbidgaaaDoorBof
import Derived.Test.YtndkcimdbidgaaaDoorBad
import Derived.Test.YtndkcimdbidgaaaDoorBsu
import Derived.Test.YtndkcimdbidgaaaDoorBcm
import Derived.Test.YtndkcimdbidgaaaDoorMix
import Derived.Deep.Cut
namespace Go.Proofs.YtndkcimdbidgaaaDoor
open Go.ChangeShapes Go.WideShapes Go.ChangeAt Go.RowKit Go.ChangeMaps

theorem sgn_add (s : Bool) (x y : Nat) : sgn s (x + y) = sgn s x + sgn s y := by cases s <;> simp [sgn] <;> omega
theorem sgn_sub (s t : Bool) (x y r : Nat) (h : s ≠ t) (hr : r + y = x) : sgn s r = sgn s x + sgn t y := by
  cases s <;> cases t <;> simp_all [sgn] <;> omega
theorem nmz_le {D E : List Nat} (hD : dok 4294967296 D) (hE : dok 4294967296 E) (n1 : nmz D) (h : dv 4294967296 D ≤ dv 4294967296 E) : D.length ≤ E.length := by
  rcases Nat.lt_or_ge E.length D.length with g | g
  · have := nmz_len (by decide) E D hE hD n1 g; omega
  · exact g
set_option maxRecDepth 100000 in
set_option maxHeartbeats 4000000 in
theorem Add_any (a b : Value) (z1 z2 : Int) (N1 N2 : Nat) (w : World) (ha : BG w a z1 N1) (hb : BG w b z2 N2) (hN1 : N1 ≤ 50000) (hN2 : N2 ≤ 50000) : Calls Tryd.prog 27 #[a, b] w fun e w' => ∃ v, e = .returned v ∧ NB w' w.heap.size v (z1 + z2) (max N1 N2 + 1) ∧ Below w.heap.size w w' := by
  obtain ⟨na, A, n, c, D, rfl, hd1, hs1, hn1, hz1⟩ := ha
  obtain ⟨nb, A2, m, c2, E, rfl, hd2, hs2, hn2, hz2⟩ := hb
  obtain ⟨z, hz⟩ : ∃ z, z1 + z2 = z := ⟨_, rfl⟩
  rw [hz]
  obtain ⟨W0, hW0⟩ : ∃ W, W = ((w.alloc (.cells #[.bool na, .slice A n c] 24)).alloc (.cells #[.bool nb, .slice A2 m c2] 24)).alloc (.cells #[.bool false, .slice none 0 0] 24) := ⟨_, rfl⟩
  have HB := Lib.hid (show Below w.heap.size w W0 by rw [hW0]; exact (((Below.refl _ w).alloc (Nat.le_refl _) _).alloc (by simp) _).alloc (by simp; omega) _)
  have K2 := Lib.hid (show Blk W0 w.heap.size 24 #[.bool na, .slice A n c] by rw [hW0]; exact ((Blk.new _ _ _).alloc _).alloc _)
  have K3 := Lib.hid (show Blk W0 (w.heap.size + 1) 24 #[.bool nb, .slice A2 m c2] by rw [hW0]; exact (Blk.new_ (by simp) rfl : Blk ((w.alloc _).alloc _) _ _ _).alloc _)
  have K4 := Lib.hid (show Blk W0 (w.heap.size + 1 + 1) 24 #[.bool false, .slice none 0 0] by rw [hW0]; exact Blk.new_ (by simp) rfl)
  have HDG1 := Lib.hid hd1
  have HDG2 := Lib.hid hd2
  have CT1 := Lib.hid (fun W (hW : Below W0.heap.size W0 W) => trim_any A n c D W ((hd1.below HB.out).below hW) hs1)
  have CT2 := Lib.hid (fun W (hW : Below W0.heap.size W0 W) => trim_any A2 m c2 E W ((hd2.below HB.out).below hW) hs2)
  have HZ1 := Lib.hid hz1
  have HZ2 := Lib.hid hz2
  have HZZ := Lib.hid hz
  have HL1 := hd1.1
  have HL2 := hd2.1
  clear hd1 hd2 hs1 hs2 hz1 hz2 hz
  have K2_0 : W0.cell? ⟨w.heap.size, 0, none⟩ = some (.bool na) := K2.out.cell 0
  have K2_1 : W0.cell? ⟨w.heap.size, 1, none⟩ = some (.slice A n c) := K2.out.cell 1
  have K3_0 : W0.cell? ⟨w.heap.size + 1, 0, none⟩ = some (.bool nb) := K3.out.cell 0
  have K3_1 : W0.cell? ⟨w.heap.size + 1, 1, none⟩ = some (.slice A2 m c2) := K3.out.cell 1
  go_enter Tryd.func27, Tryd.ntmps27
  go_upto_region 1 with fail
  rw [← hW0]
  clear hW0
  have hy0 : Below W0.heap.size W0 W0.drew := below_drew (Below.refl _ _)
  refine wp_region_mix 6 (fun w' => Below W0.heap.size W0 w') (by kernel_rfl) (by decide) ?_
  generalize W0.drew = y0 at hy0 ⊢
  refine wpM_take (i := 0) (oi := ⟨some 7, _, _, _, _, _⟩) (v := ?_) rfl (by decide +kernel) (by decide +kernel) (by decide +kernel) (fun _ _ _ h => h) (Or.inl ⟨by rfl, ?_⟩) hy0 ?_
  case refine_2 =>
    intro w' hSw
    have K2_0' := keepcell hSw K2_0
    have K2_1' := keepcell hSw K2_1
    have K3_0' := keepcell hSw K3_0
    have K3_1' := keepcell hSw K3_1
    go_simp
    try (with_reducible rfl)
  try simp only [Act.put, List.setIfInBounds_toArray, List.set_cons_zero, List.set_cons_succ]
  refine wpM_take (i := 1) (oi := ⟨some 8, _, _, _, _, _⟩) (v := ?_) rfl (by decide +kernel) (by decide +kernel) (by decide +kernel) (fun _ _ _ h => h) (Or.inl ⟨by rfl, ?_⟩) hy0 ?_
  case refine_2 =>
    intro w' hSw
    have K2_0' := keepcell hSw K2_0
    have K2_1' := keepcell hSw K2_1
    have K3_0' := keepcell hSw K3_0
    have K3_1' := keepcell hSw K3_1
    go_simp
    try (with_reducible rfl)
  try simp only [Act.put, List.setIfInBounds_toArray, List.set_cons_zero, List.set_cons_succ]
  refine wpM_take (i := 3) (oi := ⟨some 10, _, _, _, _, _⟩) (v := ?_) rfl (by decide +kernel) (by decide +kernel) (by decide +kernel) (fun _ _ _ h => h) (Or.inl ⟨by rfl, ?_⟩) hy0 ?_
  case refine_2 =>
    intro w' hSw
    have K2_0' := keepcell hSw K2_0
    have K2_1' := keepcell hSw K2_1
    have K3_0' := keepcell hSw K3_0
    have K3_1' := keepcell hSw K3_1
    go_simp
    try (with_reducible rfl)
  try simp only [Act.put, List.setIfInBounds_toArray, List.set_cons_zero, List.set_cons_succ]
  refine wpM_take (i := 4) (oi := ⟨some 11, _, _, _, _, _⟩) (v := ?_) rfl (by decide +kernel) (by decide +kernel) (by decide +kernel) (fun _ _ _ h => h) (Or.inl ⟨by rfl, ?_⟩) hy0 ?_
  case refine_2 =>
    intro w' hSw
    have K2_0' := keepcell hSw K2_0
    have K2_1' := keepcell hSw K2_1
    have K3_0' := keepcell hSw K3_0
    have K3_1' := keepcell hSw K3_1
    go_simp
    try (with_reducible rfl)
  try simp only [Act.put, List.setIfInBounds_toArray, List.set_cons_zero, List.set_cons_succ]
  refine wpM_step (i := 2) (o := ⟨some 9, _, _, _, _, _⟩) rfl (by decide +kernel) (by decide) (fun K hK => ?_)
  go_simp
  refine (CT1.out y0 hy0).mono ?_
  rintro e y_ ⟨k1, rfl, ht1, hy⟩
  replace hy := hy.symm
  subst hy
  have HT1 := Lib.hid ht1
  clear ht1
  refine hK.out _ _ hy0 ?_
  clear hK K
  try simp only [Act.put, List.setIfInBounds_toArray, List.set_cons_zero, List.set_cons_succ]
  refine wpM_step (i := 5) (o := ⟨some 12, _, _, _, _, _⟩) rfl (by decide +kernel) (by decide) (fun K hK => ?_)
  go_simp
  refine (CT2.out y0 hy0).mono ?_
  rintro e y_ ⟨k2, rfl, ht2, hy⟩
  replace hy := hy.symm
  subst hy
  have HT2 := Lib.hid ht2
  clear ht2
  refine hK.out _ _ hy0 ?_
  clear hK K
  try simp only [Act.put, List.setIfInBounds_toArray, List.set_cons_zero, List.set_cons_succ]
  refine wpM_done (by decide +kernel) ?_
  simp only [List.drop_succ_cons, List.drop_zero]
  have HD1 := Lib.hid (HDG1.out.take (show k1 ≤ n by have := HT1.out.1; omega))
  have HD2 := Lib.hid (HDG2.out.take (show k2 ≤ m by have := HT2.out.1; omega))
  have hk1 : k1 ≤ N1 := by have := HT1.out.1; omega
  have hk2 : k2 ≤ N2 := by have := HT2.out.1; omega
  clear K2_0 K2_1 K3_0 K3_1
  replace K2 := Lib.hid (K2.out.below hy0)
  replace K3 := Lib.hid (K3.out.below hy0)
  replace K4 := Lib.hid (K4.out.below hy0)
  replace HB := Lib.hid (HB.out.trans (hy0.mono HB.out.size))
  have hw0 : True := trivial
  clear hy0
  have HBW := Lib.hid HB.out
  clear HL1 HL2 hn1 hn2 CT1 CT2
  have K2_0 : y0.cell? ⟨w.heap.size, 0, none⟩ = some (.bool na) := K2.out.cell 0
  have K2_1 : y0.cell? ⟨w.heap.size, 1, none⟩ = some (.slice A n c) := K2.out.cell 1
  have K3_0 : y0.cell? ⟨w.heap.size + 1, 0, none⟩ = some (.bool nb) := K3.out.cell 0
  have K3_1 : y0.cell? ⟨w.heap.size + 1, 1, none⟩ = some (.slice A2 m c2) := K3.out.cell 1
  by_cases hab : na = nb
  · subst hab
    have hbb : (na == na) = true := by simp
    have CF := Lib.hid (fun W (hW : Below y0.heap.size y0 W) => (add_any A k1 c (D.take k1) A2 k2 c2 (E.take k2) W ((HD1.out.below HBW.out).below hW) ((HD2.out.below HBW.out).below hW) (by omega) (by omega)).mono (fun e w1 h => show ∃ g R, e = .returned (.slice (some ⟨g, 0, none⟩) R.length R.length) ∧ Blk w1 g 47 (dc R) ∧ W.heap.size ≤ g ∧ dok 4294967296 R ∧ dv 4294967296 R = dv 4294967296 D + dv 4294967296 E ∧ R.length ≤ max N1 N2 + 1 ∧ Below W.heap.size W w1 from by
      obtain ⟨g, R, h1, h2, h3, h4, h5, h6, h7⟩ := h
      exact ⟨g, R, h1, h2, h3, h4, by rw [h5, HT1.out.dv, HT2.out.dv], by omega, h7⟩))
    go_upto_region 3 with fail
    have hx0 : Below y0.heap.size y0 y0.drew := below_drew (Below.refl _ _)
    refine wp_region_mix 6 (fun w' => Below y0.heap.size y0 w') (by kernel_rfl) (by decide) ?_
    generalize y0.drew = x0 at hx0 ⊢
    refine wpM_take (i := 0) (oi := ⟨some 18, _, _, _, _, _⟩) (v := ?_) rfl (by decide +kernel) (by decide +kernel) (by decide +kernel) (fun _ _ _ h => h) (Or.inl ⟨by rfl, ?_⟩) hx0 ?_
    case refine_2 =>
      intro w' hSw
      have K2_0' := keepcell hSw K2_0
      have K2_1' := keepcell hSw K2_1
      have K3_0' := keepcell hSw K3_0
      have K3_1' := keepcell hSw K3_1
      go_simp
      try (with_reducible rfl)
    try simp only [Act.put, List.setIfInBounds_toArray, List.set_cons_zero, List.set_cons_succ]
    refine wpM_take (i := 1) (oi := ⟨some 19, _, _, _, _, _⟩) (v := ?_) rfl (by decide +kernel) (by decide +kernel) (by decide +kernel) (fun _ _ _ h => h) (Or.inl ⟨by rfl, ?_⟩) hx0 ?_
    case refine_2 =>
      intro w' hSw
      have K2_0' := keepcell hSw K2_0
      have K2_1' := keepcell hSw K2_1
      have K3_0' := keepcell hSw K3_0
      have K3_1' := keepcell hSw K3_1
      go_simp
      try (with_reducible rfl)
    try simp only [Act.put, List.setIfInBounds_toArray, List.set_cons_zero, List.set_cons_succ]
    refine wpM_take (i := 2) (oi := ⟨some 20, _, _, _, _, _⟩) (v := ?_) rfl (by decide +kernel) (by decide +kernel) (by decide +kernel) (fun _ _ _ h => h) (Or.inl ⟨by rfl, ?_⟩) hx0 ?_
    case refine_2 =>
      intro w' hSw
      have K2_0' := keepcell hSw K2_0
      have K2_1' := keepcell hSw K2_1
      have K3_0' := keepcell hSw K3_0
      have K3_1' := keepcell hSw K3_1
      go_simp
      try (with_reducible rfl)
    try simp only [Act.put, List.setIfInBounds_toArray, List.set_cons_zero, List.set_cons_succ]
    refine wpM_take (i := 3) (oi := ⟨some 21, _, _, _, _, _⟩) (v := ?_) rfl (by decide +kernel) (by decide +kernel) (by decide +kernel) (fun _ _ _ h => h) (Or.inl ⟨by rfl, ?_⟩) hx0 ?_
    case refine_2 =>
      intro w' hSw
      have K2_0' := keepcell hSw K2_0
      have K2_1' := keepcell hSw K2_1
      have K3_0' := keepcell hSw K3_0
      have K3_1' := keepcell hSw K3_1
      go_simp
      try (with_reducible rfl)
    try simp only [Act.put, List.setIfInBounds_toArray, List.set_cons_zero, List.set_cons_succ]
    refine wpM_step (i := 4) (o := ⟨some 22, _, _, _, _, _⟩) rfl (by decide +kernel) (by decide) (fun K hK => ?_)
    go_simp
    refine (CF.out x0 hx0).mono ?_
    rintro e x1 ⟨g, R, rfl, hk, hg, hd, hv, hl, hc⟩
    have hx1 : Below y0.heap.size y0 x1 := hx0.trans (hc.mono hx0.size)
    have HKR := Lib.hid hk
    clear hc
    refine hK.out _ _ hx1 ?_
    clear hK K
    try simp only [Act.put, List.setIfInBounds_toArray, List.set_cons_zero, List.set_cons_succ]
    have HOR := Lib.hid (Own.of_blk HKR.out (Nat.le_refl g) hd)
    refine wpM_step (i := 5) (o := ⟨some 23, _, _, _, _, _⟩) rfl (by decide +kernel) (by decide) (fun K hK => ?_)
    go_simp
    refine (signed_any na (some ⟨g, 0, none⟩) R.length R.length R g x1 HOR.out (Sl.own (Nat.le_refl _) (by omega))).mono ?_
    rintro e x2 ⟨v, rfl, hnb, hc⟩
    have hx2 : Below y0.heap.size y0 x2 := hx1.trans (hc.mono hx1.size)
    have HV := Lib.hid hnb
    clear hc
    refine hK.out _ _ hx2 ?_
    clear hK K
    try simp only [Act.put, List.setIfInBounds_toArray, List.set_cons_zero, List.set_cons_succ]
    refine wpM_done (by decide +kernel) ?_
    simp only [List.drop_succ_cons, List.drop_zero]
    have HGG := Lib.hid (show w.heap.size ≤ g by have h1 := HB.out.size; have h2 := hx0.size; omega)
    replace HV := Lib.hid ((HV.out).mono HGG.out hl)
    have HZ := Lib.hid (show sgn na (dv 4294967296 R) = z by rw [hv, sgn_add, ← HZ1.out, ← HZ2.out]; exact HZZ.out)
    rw [HZ.out] at HV
    have HB9 := Lib.hid (HB.out.trans (hx2.mono HB.out.size))
    have K9 := Lib.hid (K4.out.below hx2)
    obtain ⟨Ar, nr, cr, Dr, hevr, hor, hsr, hnr, hvr, hNr⟩ := HV.out
    obtain ⟨sbr, hsbr⟩ : ∃ b, b = decide (z < 0) := ⟨_, rfl⟩
    rw [← hsbr] at hevr
    subst hevr
    have HSBr := Lib.hid hsbr
    clear hsbr
    go_wp2_with ((refine wpList_store_row (o := ⟨none, _, _, _, _, _⟩) rfl 24 _ _ rfl (w.heap.size + 2) #[.bool sbr, .slice Ar nr cr] rfl rfl 24 _ K9.out (by kernel_rfl) rfl (by simp [Value.oneCell']) ?_))
    refine bodyPost_ret (results_c1 rfl _ _ _ (w.heap.size + 2) _ rfl (load24 (K9.out.setRow (ds := #[.bool sbr, .slice Ar nr cr])) rfl)) rfl ?_
    exact ⟨_, rfl, NB.row ⟨Ar, nr, cr, Dr, by rw [HSBr.out], hor, hsr, hnr, hvr, hNr⟩ K9.out _, HB9.out.grown (grown_row x2 (w.heap.size + 2) _) HB9.out.size (fun j hj => by first | (injection hj with hj; omega) | omega | (cases hj; exact Nat.le_refl _))⟩
  · have hbb : (na == nb) = false := by simpa using hab
    have CC := Lib.hid (compare_any A k1 c (D.take k1) A2 k2 c2 (E.take k2) y0 (HD1.out.below HBW.out) (HD2.out.below HBW.out) (by omega) (.inr ⟨HT1.out.nmz, HT2.out.nmz⟩))
    rw [HT1.out.dv, HT2.out.dv] at CC
    have HAB := Lib.hid hab
    clear hab
    go_wp2_with fail
    refine CC.out.mono ?_
    rintro e w5 ⟨rfl, hc⟩
    replace K2 := Lib.hid (K2.out.below hc)
    replace K3 := Lib.hid (K3.out.below hc)
    replace K4 := Lib.hid (K4.out.below hc)
    replace HB := Lib.hid (HB.out.trans (hc.mono HB.out.size))
    replace HBW := Lib.hid (HBW.out.trans (hc.mono HBW.out.size))
    clear hc K2_0 K2_1 K3_0 K3_1
    have K2_0 : w5.cell? ⟨w.heap.size, 0, none⟩ = some (.bool na) := K2.out.cell 0
    have K2_1 : w5.cell? ⟨w.heap.size, 1, none⟩ = some (.slice A n c) := K2.out.cell 1
    have K3_0 : w5.cell? ⟨w.heap.size + 1, 0, none⟩ = some (.bool nb) := K3.out.cell 0
    have K3_1 : w5.cell? ⟨w.heap.size + 1, 1, none⟩ = some (.slice A2 m c2) := K3.out.cell 1
    by_cases hle : dv 4294967296 E ≤ dv 4294967296 D
    · have HLV := Lib.hid hle
      have HLE := Lib.hid (show k2 ≤ k1 by
        have := nmz_le HD2.out.2.1 HD1.out.2.1 HT2.out.nmz (by rw [HT1.out.dv, HT2.out.dv]; exact hle)
        rw [HD1.out.1, HD2.out.1] at this
        exact this)
      have hge : (scmp (dv 4294967296 D) (dv 4294967296 E)) ≥ 0 := by unfold scmp; rw [if_neg (by omega)]; split <;> omega
      obtain ⟨sc, hsc⟩ : ∃ q, scmp (dv 4294967296 D) (dv 4294967296 E) = q := ⟨_, rfl⟩
      rw [hsc] at hge ⊢
      clear hsc hle
      have CF := Lib.hid (fun W (hW : Below w5.heap.size w5 W) => (sub_any A k1 c (D.take k1) A2 k2 c2 (E.take k2) W ((HD1.out.below HBW.out).below hW) ((HD2.out.below HBW.out).below hW) (by omega) HLE.out (by rw [HT1.out.dv, HT2.out.dv]; exact HLV.out)).mono (fun e w1 h => show ∃ g R, e = .returned (.slice (some ⟨g, 0, none⟩) R.length R.length) ∧ Blk w1 g 47 (dc R) ∧ W.heap.size ≤ g ∧ dok 4294967296 R ∧ dv 4294967296 R + dv 4294967296 E = dv 4294967296 D ∧ R.length ≤ max N1 N2 + 1 ∧ Below W.heap.size W w1 from by
        obtain ⟨g, R, h1, h2, h3, h4, h5, h6, h7⟩ := h
        exact ⟨g, R, h1, h2, h3, h4, by rw [HT1.out.dv, HT2.out.dv] at h5; exact h5, by omega, h7⟩))
      go_upto_region 5 with fail
      have hx0 : Below w5.heap.size w5 w5.drew := below_drew (Below.refl _ _)
      refine wp_region_mix 6 (fun w' => Below w5.heap.size w5 w') (by kernel_rfl) (by decide) ?_
      generalize w5.drew = x0 at hx0 ⊢
      refine wpM_take (i := 0) (oi := ⟨some 28, _, _, _, _, _⟩) (v := ?_) rfl (by decide +kernel) (by decide +kernel) (by decide +kernel) (fun _ _ _ h => h) (Or.inl ⟨by rfl, ?_⟩) hx0 ?_
      case refine_2 =>
        intro w' hSw
        have K2_0' := keepcell hSw K2_0
        have K2_1' := keepcell hSw K2_1
        have K3_0' := keepcell hSw K3_0
        have K3_1' := keepcell hSw K3_1
        go_simp
        try (with_reducible rfl)
      try simp only [Act.put, List.setIfInBounds_toArray, List.set_cons_zero, List.set_cons_succ]
      refine wpM_take (i := 1) (oi := ⟨some 29, _, _, _, _, _⟩) (v := ?_) rfl (by decide +kernel) (by decide +kernel) (by decide +kernel) (fun _ _ _ h => h) (Or.inl ⟨by rfl, ?_⟩) hx0 ?_
      case refine_2 =>
        intro w' hSw
        have K2_0' := keepcell hSw K2_0
        have K2_1' := keepcell hSw K2_1
        have K3_0' := keepcell hSw K3_0
        have K3_1' := keepcell hSw K3_1
        go_simp
        try (with_reducible rfl)
      try simp only [Act.put, List.setIfInBounds_toArray, List.set_cons_zero, List.set_cons_succ]
      refine wpM_take (i := 2) (oi := ⟨some 30, _, _, _, _, _⟩) (v := ?_) rfl (by decide +kernel) (by decide +kernel) (by decide +kernel) (fun _ _ _ h => h) (Or.inl ⟨by rfl, ?_⟩) hx0 ?_
      case refine_2 =>
        intro w' hSw
        have K2_0' := keepcell hSw K2_0
        have K2_1' := keepcell hSw K2_1
        have K3_0' := keepcell hSw K3_0
        have K3_1' := keepcell hSw K3_1
        go_simp
        try (with_reducible rfl)
      try simp only [Act.put, List.setIfInBounds_toArray, List.set_cons_zero, List.set_cons_succ]
      refine wpM_take (i := 3) (oi := ⟨some 31, _, _, _, _, _⟩) (v := ?_) rfl (by decide +kernel) (by decide +kernel) (by decide +kernel) (fun _ _ _ h => h) (Or.inl ⟨by rfl, ?_⟩) hx0 ?_
      case refine_2 =>
        intro w' hSw
        have K2_0' := keepcell hSw K2_0
        have K2_1' := keepcell hSw K2_1
        have K3_0' := keepcell hSw K3_0
        have K3_1' := keepcell hSw K3_1
        go_simp
        try (with_reducible rfl)
      try simp only [Act.put, List.setIfInBounds_toArray, List.set_cons_zero, List.set_cons_succ]
      refine wpM_step (i := 4) (o := ⟨some 32, _, _, _, _, _⟩) rfl (by decide +kernel) (by decide) (fun K hK => ?_)
      go_simp
      refine (CF.out x0 hx0).mono ?_
      rintro e x1 ⟨g, R, rfl, hk, hg, hd, hv, hl, hc⟩
      have hx1 : Below w5.heap.size w5 x1 := hx0.trans (hc.mono hx0.size)
      have HKR := Lib.hid hk
      clear hc
      refine hK.out _ _ hx1 ?_
      clear hK K
      try simp only [Act.put, List.setIfInBounds_toArray, List.set_cons_zero, List.set_cons_succ]
      have HOR := Lib.hid (Own.of_blk HKR.out (Nat.le_refl g) hd)
      refine wpM_step (i := 5) (o := ⟨some 33, _, _, _, _, _⟩) rfl (by decide +kernel) (by decide) (fun K hK => ?_)
      go_simp
      refine (signed_any na (some ⟨g, 0, none⟩) R.length R.length R g x1 HOR.out (Sl.own (Nat.le_refl _) (by omega))).mono ?_
      rintro e x2 ⟨v, rfl, hnb, hc⟩
      have hx2 : Below w5.heap.size w5 x2 := hx1.trans (hc.mono hx1.size)
      have HV := Lib.hid hnb
      clear hc
      refine hK.out _ _ hx2 ?_
      clear hK K
      try simp only [Act.put, List.setIfInBounds_toArray, List.set_cons_zero, List.set_cons_succ]
      refine wpM_done (by decide +kernel) ?_
      simp only [List.drop_succ_cons, List.drop_zero]
      have HGG := Lib.hid (show w.heap.size ≤ g by have h1 := HB.out.size; have h2 := hx0.size; omega)
      replace HV := Lib.hid ((HV.out).mono HGG.out hl)
      have HZ := Lib.hid (show sgn na (dv 4294967296 R) = z by rw [sgn_sub na nb _ _ _ HAB.out hv, ← HZ1.out, ← HZ2.out]; exact HZZ.out)
      rw [HZ.out] at HV
      have HB9 := Lib.hid (HB.out.trans (hx2.mono HB.out.size))
      have K9 := Lib.hid (K4.out.below hx2)
      obtain ⟨Ar, nr, cr, Dr, hevr, hor, hsr, hnr, hvr, hNr⟩ := HV.out
      obtain ⟨sbr, hsbr⟩ : ∃ b, b = decide (z < 0) := ⟨_, rfl⟩
      rw [← hsbr] at hevr
      subst hevr
      have HSBr := Lib.hid hsbr
      clear hsbr
      go_wp2_with ((refine wpList_store_row (o := ⟨none, _, _, _, _, _⟩) rfl 24 _ _ rfl (w.heap.size + 2) #[.bool sbr, .slice Ar nr cr] rfl rfl 24 _ K9.out (by kernel_rfl) rfl (by simp [Value.oneCell']) ?_))
      refine bodyPost_ret (results_c1 rfl _ _ _ (w.heap.size + 2) _ rfl (load24 (K9.out.setRow (ds := #[.bool sbr, .slice Ar nr cr])) rfl)) rfl ?_
      exact ⟨_, rfl, NB.row ⟨Ar, nr, cr, Dr, by rw [HSBr.out], hor, hsr, hnr, hvr, hNr⟩ K9.out _, HB9.out.grown (grown_row x2 (w.heap.size + 2) _) HB9.out.size (fun j hj => by first | (injection hj with hj; omega) | omega | (cases hj; exact Nat.le_refl _))⟩
    · have HLV := Lib.hid (show dv 4294967296 D ≤ dv 4294967296 E by omega)
      have HLE := Lib.hid (show k1 ≤ k2 by
        have := nmz_le HD1.out.2.1 HD2.out.2.1 HT1.out.nmz (by rw [HT1.out.dv, HT2.out.dv]; omega)
        rw [HD1.out.1, HD2.out.1] at this
        exact this)
      have hge : ¬ (scmp (dv 4294967296 D) (dv 4294967296 E)) ≥ 0 := by unfold scmp; rw [if_pos (by omega)]; omega
      obtain ⟨sc, hsc⟩ : ∃ q, scmp (dv 4294967296 D) (dv 4294967296 E) = q := ⟨_, rfl⟩
      rw [hsc] at hge ⊢
      clear hsc hle
      have CF := Lib.hid (fun W (hW : Below w5.heap.size w5 W) => (sub_any A2 k2 c2 (E.take k2) A k1 c (D.take k1) W ((HD2.out.below HBW.out).below hW) ((HD1.out.below HBW.out).below hW) (by omega) HLE.out (by rw [HT2.out.dv, HT1.out.dv]; exact HLV.out)).mono (fun e w1 h => show ∃ g R, e = .returned (.slice (some ⟨g, 0, none⟩) R.length R.length) ∧ Blk w1 g 47 (dc R) ∧ W.heap.size ≤ g ∧ dok 4294967296 R ∧ dv 4294967296 R + dv 4294967296 D = dv 4294967296 E ∧ R.length ≤ max N1 N2 + 1 ∧ Below W.heap.size W w1 from by
        obtain ⟨g, R, h1, h2, h3, h4, h5, h6, h7⟩ := h
        exact ⟨g, R, h1, h2, h3, h4, by rw [HT2.out.dv, HT1.out.dv] at h5; exact h5, by omega, h7⟩))
      go_upto_region 6 with fail
      have hx0 : Below w5.heap.size w5 w5.drew := below_drew (Below.refl _ _)
      refine wp_region_mix 6 (fun w' => Below w5.heap.size w5 w') (by kernel_rfl) (by decide) ?_
      generalize w5.drew = x0 at hx0 ⊢
      refine wpM_take (i := 0) (oi := ⟨some 34, _, _, _, _, _⟩) (v := ?_) rfl (by decide +kernel) (by decide +kernel) (by decide +kernel) (fun _ _ _ h => h) (Or.inl ⟨by rfl, ?_⟩) hx0 ?_
      case refine_2 =>
        intro w' hSw
        have K2_0' := keepcell hSw K2_0
        have K2_1' := keepcell hSw K2_1
        have K3_0' := keepcell hSw K3_0
        have K3_1' := keepcell hSw K3_1
        go_simp
        try (with_reducible rfl)
      try simp only [Act.put, List.setIfInBounds_toArray, List.set_cons_zero, List.set_cons_succ]
      refine wpM_take (i := 1) (oi := ⟨some 35, _, _, _, _, _⟩) (v := ?_) rfl (by decide +kernel) (by decide +kernel) (by decide +kernel) (fun _ _ _ h => h) (Or.inl ⟨by rfl, ?_⟩) hx0 ?_
      case refine_2 =>
        intro w' hSw
        have K2_0' := keepcell hSw K2_0
        have K2_1' := keepcell hSw K2_1
        have K3_0' := keepcell hSw K3_0
        have K3_1' := keepcell hSw K3_1
        go_simp
        try (with_reducible rfl)
      try simp only [Act.put, List.setIfInBounds_toArray, List.set_cons_zero, List.set_cons_succ]
      refine wpM_take (i := 2) (oi := ⟨some 36, _, _, _, _, _⟩) (v := ?_) rfl (by decide +kernel) (by decide +kernel) (by decide +kernel) (fun _ _ _ h => h) (Or.inl ⟨by rfl, ?_⟩) hx0 ?_
      case refine_2 =>
        intro w' hSw
        have K2_0' := keepcell hSw K2_0
        have K2_1' := keepcell hSw K2_1
        have K3_0' := keepcell hSw K3_0
        have K3_1' := keepcell hSw K3_1
        go_simp
        try (with_reducible rfl)
      try simp only [Act.put, List.setIfInBounds_toArray, List.set_cons_zero, List.set_cons_succ]
      refine wpM_take (i := 3) (oi := ⟨some 37, _, _, _, _, _⟩) (v := ?_) rfl (by decide +kernel) (by decide +kernel) (by decide +kernel) (fun _ _ _ h => h) (Or.inl ⟨by rfl, ?_⟩) hx0 ?_
      case refine_2 =>
        intro w' hSw
        have K2_0' := keepcell hSw K2_0
        have K2_1' := keepcell hSw K2_1
        have K3_0' := keepcell hSw K3_0
        have K3_1' := keepcell hSw K3_1
        go_simp
        try (with_reducible rfl)
      try simp only [Act.put, List.setIfInBounds_toArray, List.set_cons_zero, List.set_cons_succ]
      refine wpM_step (i := 4) (o := ⟨some 38, _, _, _, _, _⟩) rfl (by decide +kernel) (by decide) (fun K hK => ?_)
      go_simp
      refine (CF.out x0 hx0).mono ?_
      rintro e x1 ⟨g, R, rfl, hk, hg, hd, hv, hl, hc⟩
      have hx1 : Below w5.heap.size w5 x1 := hx0.trans (hc.mono hx0.size)
      have HKR := Lib.hid hk
      clear hc
      refine hK.out _ _ hx1 ?_
      clear hK K
      try simp only [Act.put, List.setIfInBounds_toArray, List.set_cons_zero, List.set_cons_succ]
      have HOR := Lib.hid (Own.of_blk HKR.out (Nat.le_refl g) hd)
      refine wpM_step (i := 5) (o := ⟨some 39, _, _, _, _, _⟩) rfl (by decide +kernel) (by decide) (fun K hK => ?_)
      go_simp
      refine (signed_any nb (some ⟨g, 0, none⟩) R.length R.length R g x1 HOR.out (Sl.own (Nat.le_refl _) (by omega))).mono ?_
      rintro e x2 ⟨v, rfl, hnb, hc⟩
      have hx2 : Below w5.heap.size w5 x2 := hx1.trans (hc.mono hx1.size)
      have HV := Lib.hid hnb
      clear hc
      refine hK.out _ _ hx2 ?_
      clear hK K
      try simp only [Act.put, List.setIfInBounds_toArray, List.set_cons_zero, List.set_cons_succ]
      refine wpM_done (by decide +kernel) ?_
      simp only [List.drop_succ_cons, List.drop_zero]
      have HGG := Lib.hid (show w.heap.size ≤ g by have h1 := HB.out.size; have h2 := hx0.size; omega)
      replace HV := Lib.hid ((HV.out).mono HGG.out hl)
      have HZ := Lib.hid (show sgn nb (dv 4294967296 R) = z by rw [sgn_sub nb na _ _ _ (fun e => HAB.out e.symm) hv, ← HZ1.out, ← HZ2.out, Int.add_comm]; exact HZZ.out)
      rw [HZ.out] at HV
      have HB9 := Lib.hid (HB.out.trans (hx2.mono HB.out.size))
      have K9 := Lib.hid (K4.out.below hx2)
      obtain ⟨Ar, nr, cr, Dr, hevr, hor, hsr, hnr, hvr, hNr⟩ := HV.out
      obtain ⟨sbr, hsbr⟩ : ∃ b, b = decide (z < 0) := ⟨_, rfl⟩
      rw [← hsbr] at hevr
      subst hevr
      have HSBr := Lib.hid hsbr
      clear hsbr
      go_wp2_with ((refine wpList_store_row (o := ⟨none, _, _, _, _, _⟩) rfl 24 _ _ rfl (w.heap.size + 2) #[.bool sbr, .slice Ar nr cr] rfl rfl 24 _ K9.out (by kernel_rfl) rfl (by simp [Value.oneCell']) ?_))
      refine bodyPost_ret (results_c1 rfl _ _ _ (w.heap.size + 2) _ rfl (load24 (K9.out.setRow (ds := #[.bool sbr, .slice Ar nr cr])) rfl)) rfl ?_
      exact ⟨_, rfl, NB.row ⟨Ar, nr, cr, Dr, by rw [HSBr.out], hor, hsr, hnr, hvr, hNr⟩ K9.out _, HB9.out.grown (grown_row x2 (w.heap.size + 2) _) HB9.out.size (fun j hj => by first | (injection hj with hj; omega) | omega | (cases hj; exact Nat.le_refl _))⟩
end Go.Proofs.YtndkcimdbidgaaaDoor
