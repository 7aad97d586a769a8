/- The product of two integers. -/
import Derived.Test.YthfolccofjaknaaMB
import Derived.Test.YthfolccofjaknaaMA
import Derived.Deep.Cut
namespace Go.Proofs.Ythfolccofjaknaa
open Go.ChangeShapes Go.WideShapes Go.ChangeAt Go.RowKit Go.ChangeMaps

theorem sgn_mul (s t : Bool) (x y : Nat) : sgn (s != t) (x * y) = sgn s x * sgn t y := by
  cases s <;> cases t <;> simp [sgn, Int.mul_neg, Int.neg_mul]
set_option maxRecDepth 100000 in
set_option maxHeartbeats 4000000 in
theorem Mul_any (a b : Value) (z1 z2 : Int) (N1 N2 : Nat) (w : World) (ha : BG w a z1 N1) (hb : BG w b z2 N2) (hN1 : N1 ≤ 50000) (hN2 : N2 ≤ 50000) : Calls Try.prog 60 #[a, b] w fun e w' => ∃ v, e = .returned v ∧ NB w' w.heap.size v (z1 * z2) (N1 + N2) ∧ Below w.heap.size w w' := by
  obtain ⟨na, A, n, c, D, rfl, hd1, hs1, hn1, hz1⟩ := ha
  obtain ⟨nb, A2, m, c2, E, rfl, hd2, hs2, hn2, hz2⟩ := hb
  obtain ⟨z, hz⟩ : ∃ z, z1 * z2 = z := ⟨_, rfl⟩
  rw [hz]
  obtain ⟨W0, hW0⟩ : ∃ W, W = ((w.alloc (.cells #[.bool na, .slice A n c] 37)).alloc (.cells #[.bool nb, .slice A2 m c2] 37)).alloc (.cells #[.bool false, .slice none 0 0] 37) := ⟨_, rfl⟩
  have HB := Lib.hid (show Below w.heap.size w W0 by rw [hW0]; exact (((Below.refl _ w).alloc (Nat.le_refl _) _).alloc (by simp) _).alloc (by simp; omega) _)
  have K2 := Lib.hid (show Blk W0 w.heap.size 37 #[.bool na, .slice A n c] by rw [hW0]; exact ((Blk.new _ _ _).alloc _).alloc _)
  have K3 := Lib.hid (show Blk W0 (w.heap.size + 1) 37 #[.bool nb, .slice A2 m c2] by rw [hW0]; exact (Blk.new_ (by simp) rfl : Blk ((w.alloc _).alloc _) _ _ _).alloc _)
  have K4 := Lib.hid (show Blk W0 (w.heap.size + 1 + 1) 37 #[.bool false, .slice none 0 0] by rw [hW0]; exact Blk.new_ (by simp) rfl)
  have HDG1 := Lib.hid hd1
  have HDG2 := Lib.hid hd2
  have CT1 := Lib.hid (fun W (hW : Below W0.heap.size W0 W) => trim_any A n c D W ((hd1.below HB.out).below hW) hs1)
  have CT2 := Lib.hid (fun W (hW : Below W0.heap.size W0 W) => trim_any A2 m c2 E W ((hd2.below HB.out).below hW) hs2)
  have HZ1 := Lib.hid hz1
  have HZ2 := Lib.hid hz2
  have HZZ := Lib.hid hz
  have HL1 := hd1.1
  have HL2 := hd2.1
  clear hd1 hd2 hs1 hs2 hz1 hz2 hz
  have K2_0 : W0.cell? ⟨w.heap.size, 0, none⟩ = some (.bool na) := K2.out.cell 0
  have K2_1 : W0.cell? ⟨w.heap.size, 1, none⟩ = some (.slice A n c) := K2.out.cell 1
  have K3_0 : W0.cell? ⟨w.heap.size + 1, 0, none⟩ = some (.bool nb) := K3.out.cell 0
  have K3_1 : W0.cell? ⟨w.heap.size + 1, 1, none⟩ = some (.slice A2 m c2) := K3.out.cell 1
  go_enter Try.func60, Try.ntmps60
  go_upto_region 1 with fail
  rw [← hW0]
  clear hW0
  have hy0 : Below W0.heap.size W0 W0.drew := below_drew (Below.refl _ _)
  refine wp_region_mix 13 (fun w' => Below W0.heap.size W0 w') (by kernel_rfl) (by decide) ?_
  generalize W0.drew = y0 at hy0 ⊢
  refine wpM_take (i := 0) (oi := ⟨some 5, _, _, _, _, _⟩) (v := ?_) rfl (by decide +kernel) (by decide +kernel) (by decide +kernel) (fun _ _ _ h => h) (Or.inl ⟨by rfl, ?_⟩) hy0 ?_
  case refine_2 =>
    intro w' hSw
    have K2_0' := keepcell hSw K2_0
    have K2_1' := keepcell hSw K2_1
    have K3_0' := keepcell hSw K3_0
    have K3_1' := keepcell hSw K3_1
    go_simp
    try (with_reducible rfl)
  try simp only [Act.put, List.setIfInBounds_toArray, List.set_cons_zero, List.set_cons_succ]
  refine wpM_take (i := 1) (oi := ⟨some 6, _, _, _, _, _⟩) (v := ?_) rfl (by decide +kernel) (by decide +kernel) (by decide +kernel) (fun _ _ _ h => h) (Or.inl ⟨by rfl, ?_⟩) hy0 ?_
  case refine_2 =>
    intro w' hSw
    have K2_0' := keepcell hSw K2_0
    have K2_1' := keepcell hSw K2_1
    have K3_0' := keepcell hSw K3_0
    have K3_1' := keepcell hSw K3_1
    go_simp
    try (with_reducible rfl)
  try simp only [Act.put, List.setIfInBounds_toArray, List.set_cons_zero, List.set_cons_succ]
  refine wpM_take (i := 2) (oi := ⟨some 7, _, _, _, _, _⟩) (v := ?_) rfl (by decide +kernel) (by decide +kernel) (by decide +kernel) (fun _ _ _ h => h) (Or.inl ⟨by rfl, ?_⟩) hy0 ?_
  case refine_2 =>
    intro w' hSw
    have K2_0' := keepcell hSw K2_0
    have K2_1' := keepcell hSw K2_1
    have K3_0' := keepcell hSw K3_0
    have K3_1' := keepcell hSw K3_1
    go_simp
    try (with_reducible rfl)
  try simp only [Act.put, List.setIfInBounds_toArray, List.set_cons_zero, List.set_cons_succ]
  refine wpM_take (i := 3) (oi := ⟨some 8, _, _, _, _, _⟩) (v := ?_) rfl (by decide +kernel) (by decide +kernel) (by decide +kernel) (fun _ _ _ h => h) (Or.inl ⟨by rfl, ?_⟩) hy0 ?_
  case refine_2 =>
    intro w' hSw
    have K2_0' := keepcell hSw K2_0
    have K2_1' := keepcell hSw K2_1
    have K3_0' := keepcell hSw K3_0
    have K3_1' := keepcell hSw K3_1
    go_simp
    try (with_reducible rfl)
  try simp only [Act.put, List.setIfInBounds_toArray, List.set_cons_zero, List.set_cons_succ]
  refine wpM_take (i := 4) (oi := ⟨some 9, _, _, _, _, _⟩) (v := ?_) rfl (by decide +kernel) (by decide +kernel) (by decide +kernel) (fun _ _ _ h => h) (Or.inl ⟨by rfl, ?_⟩) hy0 ?_
  case refine_2 =>
    intro w' hSw
    have K2_0' := keepcell hSw K2_0
    have K2_1' := keepcell hSw K2_1
    have K3_0' := keepcell hSw K3_0
    have K3_1' := keepcell hSw K3_1
    go_simp
    try (with_reducible rfl)
  try simp only [Act.put, List.setIfInBounds_toArray, List.set_cons_zero, List.set_cons_succ]
  refine wpM_take (i := 5) (oi := ⟨some 10, _, _, _, _, _⟩) (v := ?_) rfl (by decide +kernel) (by decide +kernel) (by decide +kernel) (fun _ _ _ h => h) (Or.inl ⟨by rfl, ?_⟩) hy0 ?_
  case refine_2 =>
    intro w' hSw
    have K2_0' := keepcell hSw K2_0
    have K2_1' := keepcell hSw K2_1
    have K3_0' := keepcell hSw K3_0
    have K3_1' := keepcell hSw K3_1
    go_simp
    try (with_reducible rfl)
  try simp only [Act.put, List.setIfInBounds_toArray, List.set_cons_zero, List.set_cons_succ]
  refine wpM_take (i := 6) (oi := ⟨some 11, _, _, _, _, _⟩) (v := ?_) rfl (by decide +kernel) (by decide +kernel) (by decide +kernel) (fun _ _ _ h => h) (Or.inl ⟨by rfl, ?_⟩) hy0 ?_
  case refine_2 =>
    intro w' hSw
    have K2_0' := keepcell hSw K2_0
    have K2_1' := keepcell hSw K2_1
    have K3_0' := keepcell hSw K3_0
    have K3_1' := keepcell hSw K3_1
    go_simp
    try (with_reducible rfl)
  try simp only [Act.put, List.setIfInBounds_toArray, List.set_cons_zero, List.set_cons_succ]
  refine wpM_take (i := 8) (oi := ⟨some 13, _, _, _, _, _⟩) (v := ?_) rfl (by decide +kernel) (by decide +kernel) (by decide +kernel) (fun _ _ _ h => h) (Or.inl ⟨by rfl, ?_⟩) hy0 ?_
  case refine_2 =>
    intro w' hSw
    have K2_0' := keepcell hSw K2_0
    have K2_1' := keepcell hSw K2_1
    have K3_0' := keepcell hSw K3_0
    have K3_1' := keepcell hSw K3_1
    go_simp
    try (with_reducible rfl)
  try simp only [Act.put, List.setIfInBounds_toArray, List.set_cons_zero, List.set_cons_succ]
  refine wpM_take (i := 9) (oi := ⟨some 14, _, _, _, _, _⟩) (v := ?_) rfl (by decide +kernel) (by decide +kernel) (by decide +kernel) (fun _ _ _ h => h) (Or.inl ⟨by rfl, ?_⟩) hy0 ?_
  case refine_2 =>
    intro w' hSw
    have K2_0' := keepcell hSw K2_0
    have K2_1' := keepcell hSw K2_1
    have K3_0' := keepcell hSw K3_0
    have K3_1' := keepcell hSw K3_1
    go_simp
    try (with_reducible rfl)
  try simp only [Act.put, List.setIfInBounds_toArray, List.set_cons_zero, List.set_cons_succ]
  refine wpM_step (i := 7) (o := ⟨some 12, _, _, _, _, _⟩) rfl (by decide +kernel) (by decide) (fun K hK => ?_)
  go_simp
  refine (CT1.out y0 hy0).mono ?_
  rintro e y_ ⟨k1, rfl, ht1, hy⟩
  replace hy := hy.symm
  subst hy
  have HT1 := Lib.hid ht1
  clear ht1
  refine hK.out _ _ hy0 ?_
  clear hK K
  try simp only [Act.put, List.setIfInBounds_toArray, List.set_cons_zero, List.set_cons_succ]
  refine wpM_step (i := 10) (o := ⟨some 15, _, _, _, _, _⟩) rfl (by decide +kernel) (by decide) (fun K hK => ?_)
  go_simp
  refine (CT2.out y0 hy0).mono ?_
  rintro e y_ ⟨k2, rfl, ht2, hy⟩
  replace hy := hy.symm
  subst hy
  have HT2 := Lib.hid ht2
  clear ht2
  refine hK.out _ _ hy0 ?_
  clear hK K
  try simp only [Act.put, List.setIfInBounds_toArray, List.set_cons_zero, List.set_cons_succ]
  have HD1 := Lib.hid (HDG1.out.take (show k1 ≤ n by have := HT1.out.1; omega))
  have HD2 := Lib.hid (HDG2.out.take (show k2 ≤ m by have := HT2.out.1; omega))
  have hk1 : k1 ≤ N1 := by have := HT1.out.1; omega
  have hk2 : k2 ≤ N2 := by have := HT2.out.1; omega
  have CF := Lib.hid (fun W (hW : Below W0.heap.size W0 W) => (mul_any A k1 c (D.take k1) A2 k2 c2 (E.take k2) W ((HD1.out.below HB.out).below hW) ((HD2.out.below HB.out).below hW) (by omega) (by omega)).mono (fun e w1 h => show ∃ g R, e = .returned (.slice (some ⟨g, 0, none⟩) R.length R.length) ∧ Blk w1 g 86 (dc R) ∧ W.heap.size ≤ g ∧ dok 4294967296 R ∧ dv 4294967296 R = dv 4294967296 D * dv 4294967296 E ∧ R.length ≤ N1 + N2 ∧ Below W.heap.size W w1 from by
    obtain ⟨g, R, h1, h2, h3, h4, h5, h6, h7⟩ := h
    exact ⟨g, R, h1, h2, h3, h4, by rw [h5, HT1.out.dv, HT2.out.dv], by omega, h7⟩))
  refine wpM_step (i := 11) (o := ⟨some 16, _, _, _, _, _⟩) rfl (by decide +kernel) (by decide) (fun K hK => ?_)
  go_simp
  refine (CF.out y0 hy0).mono ?_
  rintro e y1 ⟨g, R, rfl, hk, hg, hd, hv, hl, hc⟩
  have hy1 : Below W0.heap.size W0 y1 := hy0.trans (hc.mono hy0.size)
  have HKR := Lib.hid hk
  clear hc
  refine hK.out _ _ hy1 ?_
  clear hK K
  try simp only [Act.put, List.setIfInBounds_toArray, List.set_cons_zero, List.set_cons_succ]
  have HOR := Lib.hid (Own.of_blk HKR.out (Nat.le_refl g) hd)
  refine wpM_step (i := 12) (o := ⟨some 17, _, _, _, _, _⟩) rfl (by decide +kernel) (by decide) (fun K hK => ?_)
  go_simp
  refine (signed_any (na != nb) (some ⟨g, 0, none⟩) R.length R.length R g y1 HOR.out (Sl.own (Nat.le_refl _) (by omega))).mono ?_
  rintro e y2 ⟨v, rfl, hnb, hc⟩
  have hy2 : Below W0.heap.size W0 y2 := hy1.trans (hc.mono hy1.size)
  have HV := Lib.hid hnb
  clear hc
  refine hK.out _ _ hy2 ?_
  clear hK K
  try simp only [Act.put, List.setIfInBounds_toArray, List.set_cons_zero, List.set_cons_succ]
  refine wpM_done (by decide +kernel) ?_
  simp only [List.drop_succ_cons, List.drop_zero]
  have HGG := Lib.hid (show w.heap.size ≤ g by have h1 := HB.out.size; have h2 := hy0.size; omega)
  replace HV := Lib.hid ((HV.out).mono HGG.out hl)
  have HZ := Lib.hid (show sgn (na != nb) (dv 4294967296 R) = z by rw [hv, sgn_mul, ← HZ1.out, ← HZ2.out]; exact HZZ.out)
  rw [HZ.out] at HV
  have HB9 := Lib.hid (HB.out.trans (hy2.mono HB.out.size))
  have K9 := Lib.hid (K4.out.below hy2)
  obtain ⟨Ar, nr, cr, Dr, hevr, hor, hsr, hnr, hvr, hNr⟩ := HV.out
  obtain ⟨sbr, hsbr⟩ : ∃ b, b = decide (z < 0) := ⟨_, rfl⟩
  rw [← hsbr] at hevr
  subst hevr
  have HSBr := Lib.hid hsbr
  clear hsbr
  go_wp2_with ((refine wpList_store_row (o := ⟨none, _, _, _, _, _⟩) rfl 37 _ _ rfl (w.heap.size + 2) #[.bool sbr, .slice Ar nr cr] rfl rfl 37 _ K9.out (by kernel_rfl) rfl (by simp [Value.oneCell']) ?_))
  refine bodyPost_ret (results_c1 rfl _ _ _ (w.heap.size + 2) _ rfl (load24 (K9.out.setRow (ds := #[.bool sbr, .slice Ar nr cr])) rfl)) rfl ?_
  exact ⟨_, rfl, NB.row ⟨Ar, nr, cr, Dr, by rw [HSBr.out], hor, hsr, hnr, hvr, hNr⟩ K9.out _, HB9.out.grown (grown_row y2 (w.heap.size + 2) _) HB9.out.size (fun j hj => by first | (injection hj with hj; omega) | omega | (cases hj; exact Nat.le_refl _))⟩
end Go.Proofs.Ythfolccofjaknaa
