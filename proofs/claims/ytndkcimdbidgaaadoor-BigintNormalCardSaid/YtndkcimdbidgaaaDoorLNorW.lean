/- The walk of law BigintNormal. -/
import Derived.Test.YtndkcimdbidgaaaDoorBlw
import Derived.Test.YtndkcimdbidgaaaDoorBrz
import Derived.Test.YtndkcimdbidgaaaDoorBra
import Derived.Test.YtndkcimdbidgaaaDoorBnm
import Derived.Test.YtndkcimdbidgaaaDoorBsi
namespace Go.Proofs.YtndkcimdbidgaaaDoor
open Go.ChangeShapes Go.WideShapes Go.ChangeAt Go.RowKit Go.ChangeMaps

set_option maxRecDepth 100000 in
set_option maxHeartbeats 4000000 in
theorem bigintNormal_walk (x0 : Bool) (A0 : Option Addr) (n0 c0 : Nat) (D0 : List Nat) (w : World) (k0 : DG w A0 n0 D0) (l0 : Sl A0 n0 c0) (hE : EnvB w) : Calls Tryd.prog 3 #[.agg #[.bool x0, .slice A0 n0 c0]] w fun e w' => e = .returned (.bool true) ∧ Below w.heap.size w w' := by
  have HE := Lib.hid hE
  clear hE
  obtain ⟨w0, hw0⟩ : ∃ W, W = w.alloc (.cells #[.bool x0, .slice A0 n0 c0] 24) := ⟨_, rfl⟩
  have hb0 : Below w.heap.size w w0 := by rw [hw0]; exact ((Below.refl _ w).alloc (Nat.le_refl _) _)
  have HB := Lib.hid hb0
  replace HE := Lib.hid (HE.out.below hb0)
  have K1 := Lib.hid (show Blk w0 (w.heap.size) 24 #[.bool x0, .slice A0 n0 c0] by rw [hw0]; exact (Blk.new _ _ _))
  have G0 := Lib.hid (show DG w0 A0 n0 D0 from k0.below hb0)
  have L0 := Lib.hid l0
  obtain ⟨z0, hz0⟩ : ∃ z, z = sgn x0 (dv 4294967296 D0) := ⟨_, rfl⟩
  have Z0 := Lib.hid hz0
  clear hz0 k0 l0
  clear hb0
  go_enter Tryd.func3, Tryd.ntmps3
  go_wp2_with fail
  rw [← hw0]
  clear hw0
  refine (awake_any _ HE.out).mono ?_
  rintro e w1 ⟨rfl, hb⟩
  replace K1 := Lib.hid (K1.out.below hb)
  replace G0 := Lib.hid (G0.out.below hb)
  replace HE := Lib.hid (HE.out.below hb)
  replace HB := Lib.hid (HB.out.trans (hb.mono HB.out.size))
  clear hb
  have k1_0 : w1.cell? ⟨w.heap.size, 0, none⟩ = some (.bool x0) := K1.out.cell 0
  have k1_1 : w1.cell? ⟨w.heap.size, 1, none⟩ = some (.slice A0 n0 c0) := K1.out.cell 1
  obtain ⟨wb, hwb⟩ : ∃ W, W = w1.alloc (.cells #[.bool x0, .slice A0 n0 c0] 24) := ⟨_, rfl⟩
  have hbb : Below w1.heap.size w1 wb := by rw [hwb]; exact (Below.refl _ _).alloc (Nat.le_refl _) _
  have KB : Blk wb w1.heap.size 24 #[.bool x0, .slice A0 n0 c0] := by rw [hwb]; exact Blk.new _ _ _
  have CS := Lib.hid (small_any [(x0, A0, n0, c0)] w1.heap.size 1 wb KB.lt (fun j v h => (KB.cell j).trans (by simpa [bigc] using h)) (by simp))
  clear KB
  go_wp2_with fail
  rw [← hwb]
  clear hwb
  clear k1_0 k1_1
  replace K1 := Lib.hid (K1.out.below hbb)
  replace G0 := Lib.hid (G0.out.below hbb)
  replace HE := Lib.hid (HE.out.below hbb)
  replace HB := Lib.hid (HB.out.trans (hbb.mono HB.out.size))
  clear hbb
  refine CS.out.mono ?_
  rintro e w2 ⟨b, rfl, hsm, hb⟩
  clear CS
  replace K1 := Lib.hid (K1.out.below hb)
  replace G0 := Lib.hid (G0.out.below hb)
  replace HE := Lib.hid (HE.out.below hb)
  replace HB := Lib.hid (HB.out.trans (hb.mono HB.out.size))
  clear hb
  have HSM := Lib.hid hsm
  clear hsm
  cases b
  · go_wp2_with fail
    refine (awake_any _ HE.out).mono ?_
    rintro e wz ⟨rfl, hb⟩
    have HBz := Lib.hid (HB.out.trans (hb.mono HB.out.size))
    clear hb
    go_wp2
    go_ret
    exact ⟨rfl, HBz.out⟩

  have h80 : n0 ≤ 8 := HSM.out rfl (x0, A0, n0, c0) (by simp)
  have B0 := Lib.hid (show BG w2 (.agg #[.bool x0, .slice A0 n0 c0]) z0 8 from ⟨x0, A0, n0, c0, D0, rfl, G0.out, L0.out, h80, Z0.out⟩)
  clear G0 L0
  clear HSM h80
  have k1_0 : w2.cell? ⟨w.heap.size, 0, none⟩ = some (.bool x0) := K1.out.cell 0
  have k1_1 : w2.cell? ⟨w.heap.size, 1, none⟩ = some (.slice A0 n0 c0) := K1.out.cell 1
  go_wp2_with fail
  refine (cp_bg w2 _ z0 8 B0.out (by decide)).mono ?_
  rintro e w3 ⟨v1, rfl, hv, hb⟩
  have P1 := Lib.hid hv
  clear hv
  clear k1_0 k1_1
  replace K1 := Lib.hid (K1.out.below hb)
  replace HE := Lib.hid (HE.out.below hb)
  replace B0 := Lib.hid (B0.out.below hb)
  replace HB := Lib.hid (HB.out.trans (hb.mono HB.out.size))
  clear hb
  have CI := Lib.hid (Int64_any _ z0 8 w3 P1.out.bg (by decide))
  go_wp2_with fail
  refine (CI.out).mono ?_
  rintro e w4 ⟨rfl, hb⟩
  replace K1 := Lib.hid (K1.out.below hb)
  replace HE := Lib.hid (HE.out.below hb)
  replace B0 := Lib.hid (B0.out.below hb)
  replace P1 := Lib.hid (P1.out.below hb)
  replace HB := Lib.hid (HB.out.trans (hb.mono HB.out.size))
  clear hb
  clear CI P1
  have CI := Lib.hid (RInt64_any _ z0 8 w4 B0.out (by decide))
  have k1_0 : w4.cell? ⟨w.heap.size, 0, none⟩ = some (.bool x0) := K1.out.cell 0
  have k1_1 : w4.cell? ⟨w.heap.size, 1, none⟩ = some (.slice A0 n0 c0) := K1.out.cell 1
  go_wp2_with fail
  clear k1_0 k1_1
  refine (CI.out).mono ?_
  rintro e w5 ⟨rfl, hb⟩
  replace K1 := Lib.hid (K1.out.below hb)
  replace HE := Lib.hid (HE.out.below hb)
  replace B0 := Lib.hid (B0.out.below hb)
  replace HB := Lib.hid (HB.out.trans (hb.mono HB.out.size))
  clear hb
  clear CI
  obtain ⟨iz, hiz⟩ : ∃ x, i6 z0 = x := ⟨_, rfl⟩
  obtain ⟨fz, hfz⟩ : ∃ x, f6 z0 = x := ⟨_, rfl⟩
  try rw [hiz, hfz]
  clear hiz hfz
  obtain ⟨sz, hsz⟩ : ∃ x, z0.sign = x := ⟨_, rfl⟩
  have HSZ := Lib.hid hsz
  clear hsz
  have k1_0 : w5.cell? ⟨w.heap.size, 0, none⟩ = some (.bool x0) := K1.out.cell 0
  have k1_1 : w5.cell? ⟨w.heap.size, 1, none⟩ = some (.slice A0 n0 c0) := K1.out.cell 1
  go_wp2_with fail
  have hS0 : Below w5.heap.size w5 w5.drew := below_drew (Below.refl _ _)
  refine wp_region_mix 32 (fun w' => Below w5.heap.size w5 w') (by kernel_rfl) (by decide) ?_
  generalize w5.drew = y0 at hS0 ⊢
  refine wpM_take (i := 0) (oi := ⟨some 27, _, _, _, _, _⟩) (v := ?_) rfl (by decide +kernel) (by decide +kernel) (by decide +kernel) (fun _ _ _ h => h) (Or.inl ⟨by rfl, ?_⟩) hS0 ?_
  case refine_2 =>
    intro w' hSw
    have k1_0' := keepcell hSw k1_0
    have k1_1' := keepcell hSw k1_1
    go_simp
    try (with_reducible rfl)
  try simp only [Act.put, List.setIfInBounds_toArray, List.set_cons_zero, List.set_cons_succ]
  refine wpM_take (i := 3) (oi := ⟨some 30, _, _, _, _, _⟩) (v := ?_) rfl (by decide +kernel) (by decide +kernel) (by decide +kernel) (fun _ _ _ h => h) (Or.inl ⟨by rfl, ?_⟩) hS0 ?_
  case refine_2 =>
    intro w' hSw
    have k1_0' := keepcell hSw k1_0
    have k1_1' := keepcell hSw k1_1
    go_simp
    try (with_reducible rfl)
  try simp only [Act.put, List.setIfInBounds_toArray, List.set_cons_zero, List.set_cons_succ]
  refine wpM_step (i := 1) (o := ⟨some 28, _, _, _, _, _⟩) rfl (by decide +kernel) (by decide) (fun K hK => ?_)
  go_simp
  refine (cp_bg y0 _ z0 8 (B0.out.below hS0) (by decide)).mono ?_
  rintro e y6 ⟨v28, rfl, hv, hc⟩
  have hy6 : Below w5.heap.size w5 y6 := hS0.trans (hc.mono hS0.size)
  have P28 := Lib.hid hv
  clear hv
  refine hK.out _ _ hy6 ?_
  clear hK K
  try simp only [Act.put, List.setIfInBounds_toArray, List.set_cons_zero, List.set_cons_succ]
  refine wpM_step (i := 2) (o := ⟨some 29, _, _, _, _, _⟩) rfl (by decide +kernel) (by decide) (fun K hK => ?_)
  go_simp
  refine (Normal_any _ z0 8 y6 P28.out.bg (by decide)).mono ?_
  rintro e y7 ⟨v29, rfl, hv, hc⟩
  have hy7 : Below w5.heap.size w5 y7 := hy6.trans (hc.mono hy6.size)
  replace P28 := Lib.hid (P28.out.below hc)
  have P29 := Lib.hid hv
  clear hv
  refine hK.out _ _ hy7 ?_
  clear hK K
  try simp only [Act.put, List.setIfInBounds_toArray, List.set_cons_zero, List.set_cons_succ]
  refine wpM_step (i := 4) (o := ⟨some 31, _, _, _, _, _⟩) rfl (by decide +kernel) (by decide) (fun K hK => ?_)
  go_simp
  refine (RNormal_any _ z0 8 y7 (B0.out.below hy7) (by decide)).mono ?_
  rintro e y8 ⟨v31, rfl, hv, hc⟩
  have hy8 : Below w5.heap.size w5 y8 := hy7.trans (hc.mono hy7.size)
  replace P28 := Lib.hid (P28.out.below hc)
  replace P29 := Lib.hid (P29.out.below hc)
  have P31 := Lib.hid hv
  clear hv
  refine hK.out _ _ hy8 ?_
  clear hK K
  try simp only [Act.put, List.setIfInBounds_toArray, List.set_cons_zero, List.set_cons_succ]
  refine wpM_step (i := 5) (o := ⟨some 32, _, _, _, _, _⟩) rfl (by decide +kernel) (by decide) (fun K hK => ?_)
  go_simp
  refine (Same_nb P29.out P31.out (by decide)).mono ?_
  rintro e y9 ⟨rfl, hc⟩
  have hy9 : Below w5.heap.size w5 y9 := hy8.trans (hc.mono hy8.size)
  replace P28 := Lib.hid (P28.out.below hc)
  replace P29 := Lib.hid (P29.out.below hc)
  replace P31 := Lib.hid (P31.out.below hc)
  refine hK.out _ _ hy9 ?_
  clear hK K
  try simp only [Act.put, List.setIfInBounds_toArray, List.set_cons_zero, List.set_cons_succ]
  refine wpM_take (i := 6) (oi := ⟨some 33, _, _, _, _, _⟩) (v := ?_) rfl (by decide +kernel) (by decide +kernel) (by decide +kernel) (fun _ _ _ h => h) (Or.inl ⟨by rfl, ?_⟩) hy9 ?_
  case refine_2 =>
    intro w' hSw
    go_simp
    try (with_reducible rfl)
  try simp only [Act.put, List.setIfInBounds_toArray, List.set_cons_zero, List.set_cons_succ]
  refine wpM_take (i := 7) (oi := ⟨some 34, _, _, _, _, _⟩) (v := ?_) rfl (by decide +kernel) (by decide +kernel) (by decide +kernel) (fun _ _ _ h => h) (Or.inl ⟨by rfl, ?_⟩) hy9 ?_
  case refine_2 =>
    intro w' hSw
    have k1_0' := keepcell hSw k1_0
    have k1_1' := keepcell hSw k1_1
    go_simp
    try (with_reducible rfl)
  try simp only [Act.put, List.setIfInBounds_toArray, List.set_cons_zero, List.set_cons_succ]
  refine wpM_take (i := 10) (oi := ⟨some 37, _, _, _, _, _⟩) (v := ?_) rfl (by decide +kernel) (by decide +kernel) (by decide +kernel) (fun _ _ _ h => h) (Or.inl ⟨by rfl, ?_⟩) hy9 ?_
  case refine_2 =>
    intro w' hSw
    have k1_0' := keepcell hSw k1_0
    have k1_1' := keepcell hSw k1_1
    go_simp
    try (with_reducible rfl)
  try simp only [Act.put, List.setIfInBounds_toArray, List.set_cons_zero, List.set_cons_succ]
  refine wpM_step (i := 8) (o := ⟨some 35, _, _, _, _, _⟩) rfl (by decide +kernel) (by decide) (fun K hK => ?_)
  go_simp
  refine (cp_bg y9 _ z0 8 (B0.out.below hy9) (by decide)).mono ?_
  rintro e y10 ⟨v35, rfl, hv, hc⟩
  have hy10 : Below w5.heap.size w5 y10 := hy9.trans (hc.mono hy9.size)
  replace P28 := Lib.hid (P28.out.below hc)
  replace P29 := Lib.hid (P29.out.below hc)
  replace P31 := Lib.hid (P31.out.below hc)
  have P35 := Lib.hid hv
  clear hv
  refine hK.out _ _ hy10 ?_
  clear hK K
  try simp only [Act.put, List.setIfInBounds_toArray, List.set_cons_zero, List.set_cons_succ]
  refine wpM_step (i := 9) (o := ⟨some 36, _, _, _, _, _⟩) rfl (by decide +kernel) (by decide) (fun K hK => ?_)
  go_simp
  refine (Sign_any _ z0 8 y10 P35.out.bg).mono ?_
  rintro e y11 ⟨rfl, hc⟩
  have hy11 : Below w5.heap.size w5 y11 := hy10.trans (hc.mono hy10.size)
  replace P28 := Lib.hid (P28.out.below hc)
  replace P29 := Lib.hid (P29.out.below hc)
  replace P31 := Lib.hid (P31.out.below hc)
  replace P35 := Lib.hid (P35.out.below hc)
  rw [HSZ.out]
  refine hK.out _ _ hy11 ?_
  clear hK K
  try simp only [Act.put, List.setIfInBounds_toArray, List.set_cons_zero, List.set_cons_succ]
  refine wpM_step (i := 11) (o := ⟨some 38, _, _, _, _, _⟩) rfl (by decide +kernel) (by decide) (fun K hK => ?_)
  go_simp
  refine (RSign_any _ z0 8 y11 (B0.out.below hy11) (by decide)).mono ?_
  rintro e y12 ⟨rfl, hc⟩
  have hy12 : Below w5.heap.size w5 y12 := hy11.trans (hc.mono hy11.size)
  replace P28 := Lib.hid (P28.out.below hc)
  replace P29 := Lib.hid (P29.out.below hc)
  replace P31 := Lib.hid (P31.out.below hc)
  replace P35 := Lib.hid (P35.out.below hc)
  rw [HSZ.out]
  refine hK.out _ _ hy12 ?_
  clear hK K
  try simp only [Act.put, List.setIfInBounds_toArray, List.set_cons_zero, List.set_cons_succ]
  refine wpM_take (i := 12) (oi := ⟨some 39, _, _, _, _, _⟩) (v := ?_) rfl (by decide +kernel) (by decide +kernel) (by decide +kernel) (fun _ _ _ h => h) (Or.inl ⟨by rfl, ?_⟩) hy12 ?_
  case refine_2 =>
    intro w' hSw
    go_simp
    try (with_reducible rfl)
  try simp only [Act.put, List.setIfInBounds_toArray, List.set_cons_zero, List.set_cons_succ]
  refine wpM_take (i := 13) (oi := ⟨some 40, _, _, _, _, _⟩) (v := ?_) rfl (by decide +kernel) (by decide +kernel) (by decide +kernel) (fun _ _ _ h => h) (Or.inl ⟨by rfl, ?_⟩) hy12 ?_
  case refine_2 =>
    intro w' hSw
    go_simp
    try (with_reducible rfl)
  try simp only [Act.put, List.setIfInBounds_toArray, List.set_cons_zero, List.set_cons_succ]
  refine wpM_take (i := 14) (oi := ⟨some 41, _, _, _, _, _⟩) (v := ?_) rfl (by decide +kernel) (by decide +kernel) (by decide +kernel) (fun _ _ _ h => h) (Or.inl ⟨by rfl, ?_⟩) hy12 ?_
  case refine_2 =>
    intro w' hSw
    go_simp
    try (with_reducible rfl)
  try simp only [Act.put, List.setIfInBounds_toArray, List.set_cons_zero, List.set_cons_succ]
  refine wpM_take (i := 15) (oi := ⟨some 42, _, _, _, _, _⟩) (v := ?_) rfl (by decide +kernel) (by decide +kernel) (by decide +kernel) (fun _ _ _ h => h) (Or.inl ⟨by rfl, ?_⟩) hy12 ?_
  case refine_2 =>
    intro w' hSw
    have k1_0' := keepcell hSw k1_0
    have k1_1' := keepcell hSw k1_1
    go_simp
    try (with_reducible rfl)
  try simp only [Act.put, List.setIfInBounds_toArray, List.set_cons_zero, List.set_cons_succ]
  refine wpM_take (i := 18) (oi := ⟨some 45, _, _, _, _, _⟩) (v := ?_) rfl (by decide +kernel) (by decide +kernel) (by decide +kernel) (fun _ _ _ h => h) (Or.inl ⟨by rfl, ?_⟩) hy12 ?_
  case refine_2 =>
    intro w' hSw
    have k1_0' := keepcell hSw k1_0
    have k1_1' := keepcell hSw k1_1
    go_simp
    try (with_reducible rfl)
  try simp only [Act.put, List.setIfInBounds_toArray, List.set_cons_zero, List.set_cons_succ]
  refine wpM_step (i := 16) (o := ⟨some 43, _, _, _, _, _⟩) rfl (by decide +kernel) (by decide) (fun K hK => ?_)
  go_simp
  refine (cp_bg y12 _ z0 8 (B0.out.below hy12) (by decide)).mono ?_
  rintro e y13 ⟨v43, rfl, hv, hc⟩
  have hy13 : Below w5.heap.size w5 y13 := hy12.trans (hc.mono hy12.size)
  replace P28 := Lib.hid (P28.out.below hc)
  replace P29 := Lib.hid (P29.out.below hc)
  replace P31 := Lib.hid (P31.out.below hc)
  replace P35 := Lib.hid (P35.out.below hc)
  have P43 := Lib.hid hv
  clear hv
  refine hK.out _ _ hy13 ?_
  clear hK K
  try simp only [Act.put, List.setIfInBounds_toArray, List.set_cons_zero, List.set_cons_succ]
  refine wpM_step (i := 17) (o := ⟨some 44, _, _, _, _, _⟩) rfl (by decide +kernel) (by decide) (fun K hK => ?_)
  go_simp
  refine (Neg_any _ z0 8 y13 P43.out.bg (by decide)).mono ?_
  rintro e y14 ⟨v44, rfl, hv, hc⟩
  have hy14 : Below w5.heap.size w5 y14 := hy13.trans (hc.mono hy13.size)
  replace P28 := Lib.hid (P28.out.below hc)
  replace P29 := Lib.hid (P29.out.below hc)
  replace P31 := Lib.hid (P31.out.below hc)
  replace P35 := Lib.hid (P35.out.below hc)
  replace P43 := Lib.hid (P43.out.below hc)
  have P44 := Lib.hid hv
  clear hv
  refine hK.out _ _ hy14 ?_
  clear hK K
  try simp only [Act.put, List.setIfInBounds_toArray, List.set_cons_zero, List.set_cons_succ]
  refine wpM_step (i := 19) (o := ⟨some 46, _, _, _, _, _⟩) rfl (by decide +kernel) (by decide) (fun K hK => ?_)
  go_simp
  refine (RNeg_any _ z0 8 y14 (B0.out.below hy14) (by decide)).mono ?_
  rintro e y15 ⟨v46, rfl, hv, hc⟩
  have hy15 : Below w5.heap.size w5 y15 := hy14.trans (hc.mono hy14.size)
  replace P28 := Lib.hid (P28.out.below hc)
  replace P29 := Lib.hid (P29.out.below hc)
  replace P31 := Lib.hid (P31.out.below hc)
  replace P35 := Lib.hid (P35.out.below hc)
  replace P43 := Lib.hid (P43.out.below hc)
  replace P44 := Lib.hid (P44.out.below hc)
  have P46 := Lib.hid hv
  clear hv
  refine hK.out _ _ hy15 ?_
  clear hK K
  try simp only [Act.put, List.setIfInBounds_toArray, List.set_cons_zero, List.set_cons_succ]
  refine wpM_step (i := 20) (o := ⟨some 47, _, _, _, _, _⟩) rfl (by decide +kernel) (by decide) (fun K hK => ?_)
  go_simp
  refine (Same_nb P44.out P46.out (by decide)).mono ?_
  rintro e y16 ⟨rfl, hc⟩
  have hy16 : Below w5.heap.size w5 y16 := hy15.trans (hc.mono hy15.size)
  replace P28 := Lib.hid (P28.out.below hc)
  replace P29 := Lib.hid (P29.out.below hc)
  replace P31 := Lib.hid (P31.out.below hc)
  replace P35 := Lib.hid (P35.out.below hc)
  replace P43 := Lib.hid (P43.out.below hc)
  replace P44 := Lib.hid (P44.out.below hc)
  replace P46 := Lib.hid (P46.out.below hc)
  refine hK.out _ _ hy16 ?_
  clear hK K
  try simp only [Act.put, List.setIfInBounds_toArray, List.set_cons_zero, List.set_cons_succ]
  refine wpM_take (i := 21) (oi := ⟨some 48, _, _, _, _, _⟩) (v := ?_) rfl (by decide +kernel) (by decide +kernel) (by decide +kernel) (fun _ _ _ h => h) (Or.inl ⟨by rfl, ?_⟩) hy16 ?_
  case refine_2 =>
    intro w' hSw
    go_simp
    try (with_reducible rfl)
  try simp only [Act.put, List.setIfInBounds_toArray, List.set_cons_zero, List.set_cons_succ]
  refine wpM_take (i := 22) (oi := ⟨some 49, _, _, _, _, _⟩) (v := ?_) rfl (by decide +kernel) (by decide +kernel) (by decide +kernel) (fun _ _ _ h => h) (Or.inl ⟨by rfl, ?_⟩) hy16 ?_
  case refine_2 =>
    intro w' hSw
    go_simp
    try (with_reducible rfl)
  try simp only [Act.put, List.setIfInBounds_toArray, List.set_cons_zero, List.set_cons_succ]
  refine wpM_take (i := 23) (oi := ⟨some 50, _, _, _, _, _⟩) (v := ?_) rfl (by decide +kernel) (by decide +kernel) (by decide +kernel) (fun _ _ _ h => h) (Or.inl ⟨by rfl, ?_⟩) hy16 ?_
  case refine_2 =>
    intro w' hSw
    go_simp
    try (with_reducible rfl)
  try simp only [Act.put, List.setIfInBounds_toArray, List.set_cons_zero, List.set_cons_succ]
  refine wpM_take (i := 24) (oi := ⟨some 51, _, _, _, _, _⟩) (v := ?_) rfl (by decide +kernel) (by decide +kernel) (by decide +kernel) (fun _ _ _ h => h) (Or.inl ⟨by rfl, ?_⟩) hy16 ?_
  case refine_2 =>
    intro w' hSw
    go_simp
    try (with_reducible rfl)
  try simp only [Act.put, List.setIfInBounds_toArray, List.set_cons_zero, List.set_cons_succ]
  refine wpM_take (i := 25) (oi := ⟨some 52, _, _, _, _, _⟩) (v := ?_) rfl (by decide +kernel) (by decide +kernel) (by decide +kernel) (fun _ _ _ h => h) (Or.inl ⟨by rfl, ?_⟩) hy16 ?_
  case refine_2 =>
    intro w' hSw
    go_simp
    try (with_reducible rfl)
  try simp only [Act.put, List.setIfInBounds_toArray, List.set_cons_zero, List.set_cons_succ]
  refine wpM_take (i := 26) (oi := ⟨some 53, _, _, _, _, _⟩) (v := ?_) rfl (by decide +kernel) (by decide +kernel) (by decide +kernel) (fun _ _ _ h => h) (Or.inl ⟨by rfl, ?_⟩) hy16 ?_
  case refine_2 =>
    intro w' hSw
    go_simp
    try (with_reducible rfl)
  try simp only [Act.put, List.setIfInBounds_toArray, List.set_cons_zero, List.set_cons_succ]
  refine wpM_take (i := 27) (oi := ⟨some 54, _, _, _, _, _⟩) (v := ?_) rfl (by decide +kernel) (by decide +kernel) (by decide +kernel) (fun _ _ _ h => h) (Or.inl ⟨by rfl, ?_⟩) hy16 ?_
  case refine_2 =>
    intro w' hSw
    go_simp
    try (with_reducible rfl)
  try simp only [Act.put, List.setIfInBounds_toArray, List.set_cons_zero, List.set_cons_succ]
  refine wpM_take (i := 28) (oi := ⟨some 55, _, _, _, _, _⟩) (v := ?_) rfl (by decide +kernel) (by decide +kernel) (by decide +kernel) (fun _ _ _ h => h) (Or.inl ⟨by rfl, ?_⟩) hy16 ?_
  case refine_2 =>
    intro w' hSw
    go_simp
    try (with_reducible rfl)
  try simp only [Act.put, List.setIfInBounds_toArray, List.set_cons_zero, List.set_cons_succ]
  refine wpM_take (i := 29) (oi := ⟨some 56, _, _, _, _, _⟩) (v := ?_) rfl (by decide +kernel) (by decide +kernel) (by decide +kernel) (fun _ _ _ h => h) (Or.inl ⟨by rfl, ?_⟩) hy16 ?_
  case refine_2 =>
    intro w' hSw
    go_simp
    try (with_reducible rfl)
  try simp only [Act.put, List.setIfInBounds_toArray, List.set_cons_zero, List.set_cons_succ]
  refine wpM_take (i := 30) (oi := ⟨some 57, _, _, _, _, _⟩) (v := ?_) rfl (by decide +kernel) (by decide +kernel) (by decide +kernel) (fun _ _ _ h => h) (Or.inl ⟨by rfl, ?_⟩) hy16 ?_
  case refine_2 =>
    intro w' hSw
    go_simp
    try (with_reducible rfl)
  try simp only [Act.put, List.setIfInBounds_toArray, List.set_cons_zero, List.set_cons_succ]
  refine wpM_take (i := 31) (oi := ⟨some 58, _, _, _, _, _⟩) (v := ?_) rfl (by decide +kernel) (by decide +kernel) (by decide +kernel) (fun _ _ _ h => h) (Or.inl ⟨by rfl, ?_⟩) hy16 ?_
  case refine_2 =>
    intro w' hSw
    go_simp
    try (with_reducible rfl)
  try simp only [Act.put, List.setIfInBounds_toArray, List.set_cons_zero, List.set_cons_succ]
  refine wpM_done (by decide +kernel) ?_
  simp only [List.drop_succ_cons, List.drop_zero]
  have HF := Lib.hid (HB.out.trans (hy16.mono HB.out.size))
  go_wp2
  go_ret
  exact ⟨rfl, HF.out⟩
end Go.Proofs.YtndkcimdbidgaaaDoor
