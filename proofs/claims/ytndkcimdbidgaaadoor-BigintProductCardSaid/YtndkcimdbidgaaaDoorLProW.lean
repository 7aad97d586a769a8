/- The walk of law BigintProduct. -/
import Derived.Test.YtndkcimdbidgaaaDoorBlw
import Derived.Test.YtndkcimdbidgaaaDoorBrv
import Derived.Test.YtndkcimdbidgaaaDoorBmu
namespace Go.Proofs.YtndkcimdbidgaaaDoor
open Go.ChangeShapes Go.WideShapes Go.ChangeAt Go.RowKit Go.ChangeMaps

set_option maxRecDepth 100000 in
set_option maxHeartbeats 4000000 in
theorem bigintProduct_walk (x0 : Bool) (A0 : Option Addr) (n0 c0 : Nat) (D0 : List Nat) (x1 : Bool) (A1 : Option Addr) (n1 c1 : Nat) (D1 : List Nat) (w : World) (k0 : DG w A0 n0 D0) (l0 : Sl A0 n0 c0) (k1 : DG w A1 n1 D1) (l1 : Sl A1 n1 c1) (hE : EnvB w) : Calls Tryd.prog 6 #[.agg #[.bool x0, .slice A0 n0 c0], .agg #[.bool x1, .slice A1 n1 c1]] w fun e w' => e = .returned (.bool true) ∧ Below w.heap.size w w' := by
  have HE := Lib.hid hE
  clear hE
  obtain ⟨w0, hw0⟩ : ∃ W, W = (w.alloc (.cells #[.bool x0, .slice A0 n0 c0] 24)).alloc (.cells #[.bool x1, .slice A1 n1 c1] 24) := ⟨_, rfl⟩
  have hb0 : Below w.heap.size w w0 := by rw [hw0]; exact (((Below.refl _ w).alloc (Nat.le_refl _) _).alloc (by first | (simp; done) | (simp; omega)) _)
  have HB := Lib.hid hb0
  replace HE := Lib.hid (HE.out.below hb0)
  have K2 := Lib.hid (show Blk w0 (w.heap.size) 24 #[.bool x0, .slice A0 n0 c0] by rw [hw0]; exact ((Blk.new _ _ _).alloc _))
  have G0 := Lib.hid (show DG w0 A0 n0 D0 from k0.below hb0)
  have L0 := Lib.hid l0
  obtain ⟨z0, hz0⟩ : ∃ z, z = sgn x0 (dv 4294967296 D0) := ⟨_, rfl⟩
  have Z0 := Lib.hid hz0
  clear hz0 k0 l0
  have K3 := Lib.hid (show Blk w0 (w.heap.size + 1) 24 #[.bool x1, .slice A1 n1 c1] by rw [hw0]; exact Blk.new_ (by simp) rfl)
  have G1 := Lib.hid (show DG w0 A1 n1 D1 from k1.below hb0)
  have L1 := Lib.hid l1
  obtain ⟨z1, hz1⟩ : ∃ z, z = sgn x1 (dv 4294967296 D1) := ⟨_, rfl⟩
  have Z1 := Lib.hid hz1
  clear hz1 k1 l1
  clear hb0
  go_enter Tryd.func6, Tryd.ntmps6
  go_wp2_with fail
  rw [← hw0]
  clear hw0
  refine (awake_any _ HE.out).mono ?_
  rintro e w1 ⟨rfl, hb⟩
  replace K2 := Lib.hid (K2.out.below hb)
  replace G0 := Lib.hid (G0.out.below hb)
  replace K3 := Lib.hid (K3.out.below hb)
  replace G1 := Lib.hid (G1.out.below hb)
  replace HE := Lib.hid (HE.out.below hb)
  replace HB := Lib.hid (HB.out.trans (hb.mono HB.out.size))
  clear hb
  have k2_0 : w1.cell? ⟨w.heap.size, 0, none⟩ = some (.bool x0) := K2.out.cell 0
  have k2_1 : w1.cell? ⟨w.heap.size, 1, none⟩ = some (.slice A0 n0 c0) := K2.out.cell 1
  have k3_0 : w1.cell? ⟨w.heap.size + 1, 0, none⟩ = some (.bool x1) := K3.out.cell 0
  have k3_1 : w1.cell? ⟨w.heap.size + 1, 1, none⟩ = some (.slice A1 n1 c1) := K3.out.cell 1
  obtain ⟨wb, hwb⟩ : ∃ W, W = w1.alloc (.cells #[.bool x0, .slice A0 n0 c0, .bool x1, .slice A1 n1 c1] 24) := ⟨_, rfl⟩
  have hbb : Below w1.heap.size w1 wb := by rw [hwb]; exact (Below.refl _ _).alloc (Nat.le_refl _) _
  have KB : Blk wb w1.heap.size 24 #[.bool x0, .slice A0 n0 c0, .bool x1, .slice A1 n1 c1] := by rw [hwb]; exact Blk.new _ _ _
  have CS := Lib.hid (small_any [(x0, A0, n0, c0), (x1, A1, n1, c1)] w1.heap.size 2 wb KB.lt (fun j v h => (KB.cell j).trans (by simpa [bigc] using h)) (by simp))
  clear KB
  go_wp2_with fail
  rw [← hwb]
  clear hwb
  clear k2_0 k2_1 k3_0 k3_1
  replace K2 := Lib.hid (K2.out.below hbb)
  replace G0 := Lib.hid (G0.out.below hbb)
  replace K3 := Lib.hid (K3.out.below hbb)
  replace G1 := Lib.hid (G1.out.below hbb)
  replace HE := Lib.hid (HE.out.below hbb)
  replace HB := Lib.hid (HB.out.trans (hbb.mono HB.out.size))
  clear hbb
  refine CS.out.mono ?_
  rintro e w2 ⟨b, rfl, hsm, hb⟩
  clear CS
  replace K2 := Lib.hid (K2.out.below hb)
  replace G0 := Lib.hid (G0.out.below hb)
  replace K3 := Lib.hid (K3.out.below hb)
  replace G1 := Lib.hid (G1.out.below hb)
  replace HE := Lib.hid (HE.out.below hb)
  replace HB := Lib.hid (HB.out.trans (hb.mono HB.out.size))
  clear hb
  have HSM := Lib.hid hsm
  clear hsm
  cases b
  · go_wp2_with fail
    refine (awake_any _ HE.out).mono ?_
    rintro e wz ⟨rfl, hb⟩
    have HBz := Lib.hid (HB.out.trans (hb.mono HB.out.size))
    clear hb
    go_wp2
    go_ret
    exact ⟨rfl, HBz.out⟩

  have h80 : n0 ≤ 8 := HSM.out rfl (x0, A0, n0, c0) (by simp)
  have h81 : n1 ≤ 8 := HSM.out rfl (x1, A1, n1, c1) (by simp)
  have B0 := Lib.hid (show BG w2 (.agg #[.bool x0, .slice A0 n0 c0]) z0 8 from ⟨x0, A0, n0, c0, D0, rfl, G0.out, L0.out, h80, Z0.out⟩)
  clear G0 L0
  have B1 := Lib.hid (show BG w2 (.agg #[.bool x1, .slice A1 n1 c1]) z1 8 from ⟨x1, A1, n1, c1, D1, rfl, G1.out, L1.out, h81, Z1.out⟩)
  clear G1 L1
  clear HSM h80 h81
  have k2_0 : w2.cell? ⟨w.heap.size, 0, none⟩ = some (.bool x0) := K2.out.cell 0
  have k2_1 : w2.cell? ⟨w.heap.size, 1, none⟩ = some (.slice A0 n0 c0) := K2.out.cell 1
  have k3_0 : w2.cell? ⟨w.heap.size + 1, 0, none⟩ = some (.bool x1) := K3.out.cell 0
  have k3_1 : w2.cell? ⟨w.heap.size + 1, 1, none⟩ = some (.slice A1 n1 c1) := K3.out.cell 1
  go_wp2_with fail
  have hS0 : Below w2.heap.size w2 w2.drew := below_drew (Below.refl _ _)
  refine wp_region_mix 9 (fun w' => Below w2.heap.size w2 w') (by kernel_rfl) (by decide) ?_
  generalize w2.drew = y0 at hS0 ⊢
  refine wpM_take (i := 0) (oi := ⟨some 15, _, _, _, _, _⟩) (v := ?_) rfl (by decide +kernel) (by decide +kernel) (by decide +kernel) (fun _ _ _ h => h) (Or.inl ⟨by rfl, ?_⟩) hS0 ?_
  case refine_2 =>
    intro w' hSw
    have k2_0' := keepcell hSw k2_0
    have k2_1' := keepcell hSw k2_1
    go_simp
    try (with_reducible rfl)
  try simp only [Act.put, List.setIfInBounds_toArray, List.set_cons_zero, List.set_cons_succ]
  refine wpM_take (i := 2) (oi := ⟨some 17, _, _, _, _, _⟩) (v := ?_) rfl (by decide +kernel) (by decide +kernel) (by decide +kernel) (fun _ _ _ h => h) (Or.inl ⟨by rfl, ?_⟩) hS0 ?_
  case refine_2 =>
    intro w' hSw
    have k3_0' := keepcell hSw k3_0
    have k3_1' := keepcell hSw k3_1
    go_simp
    try (with_reducible rfl)
  try simp only [Act.put, List.setIfInBounds_toArray, List.set_cons_zero, List.set_cons_succ]
  refine wpM_take (i := 5) (oi := ⟨some 20, _, _, _, _, _⟩) (v := ?_) rfl (by decide +kernel) (by decide +kernel) (by decide +kernel) (fun _ _ _ h => h) (Or.inl ⟨by rfl, ?_⟩) hS0 ?_
  case refine_2 =>
    intro w' hSw
    have k2_0' := keepcell hSw k2_0
    have k2_1' := keepcell hSw k2_1
    go_simp
    try (with_reducible rfl)
  try simp only [Act.put, List.setIfInBounds_toArray, List.set_cons_zero, List.set_cons_succ]
  refine wpM_take (i := 6) (oi := ⟨some 21, _, _, _, _, _⟩) (v := ?_) rfl (by decide +kernel) (by decide +kernel) (by decide +kernel) (fun _ _ _ h => h) (Or.inl ⟨by rfl, ?_⟩) hS0 ?_
  case refine_2 =>
    intro w' hSw
    have k3_0' := keepcell hSw k3_0
    have k3_1' := keepcell hSw k3_1
    go_simp
    try (with_reducible rfl)
  try simp only [Act.put, List.setIfInBounds_toArray, List.set_cons_zero, List.set_cons_succ]
  refine wpM_step (i := 1) (o := ⟨some 16, _, _, _, _, _⟩) rfl (by decide +kernel) (by decide) (fun K hK => ?_)
  go_simp
  refine (cp_bg y0 _ z0 8 (B0.out.below hS0) (by decide)).mono ?_
  rintro e y3 ⟨v16, rfl, hv, hc⟩
  have hy3 : Below w2.heap.size w2 y3 := hS0.trans (hc.mono hS0.size)
  have P16 := Lib.hid hv
  clear hv
  refine hK.out _ _ hy3 ?_
  clear hK K
  try simp only [Act.put, List.setIfInBounds_toArray, List.set_cons_zero, List.set_cons_succ]
  refine wpM_step (i := 3) (o := ⟨some 18, _, _, _, _, _⟩) rfl (by decide +kernel) (by decide) (fun K hK => ?_)
  go_simp
  refine (cp_bg y3 _ z1 8 (B1.out.below hy3) (by decide)).mono ?_
  rintro e y4 ⟨v18, rfl, hv, hc⟩
  have hy4 : Below w2.heap.size w2 y4 := hy3.trans (hc.mono hy3.size)
  replace P16 := Lib.hid (P16.out.below hc)
  have P18 := Lib.hid hv
  clear hv
  refine hK.out _ _ hy4 ?_
  clear hK K
  try simp only [Act.put, List.setIfInBounds_toArray, List.set_cons_zero, List.set_cons_succ]
  refine wpM_step (i := 4) (o := ⟨some 19, _, _, _, _, _⟩) rfl (by decide +kernel) (by decide) (fun K hK => ?_)
  go_simp
  refine (Mul_any _ _ z0 z1 8 8 y4 P16.out.bg P18.out.bg (by decide) (by decide)).mono ?_
  rintro e y5 ⟨v19, rfl, hv, hc⟩
  have hy5 : Below w2.heap.size w2 y5 := hy4.trans (hc.mono hy4.size)
  replace P16 := Lib.hid (P16.out.below hc)
  replace P18 := Lib.hid (P18.out.below hc)
  have P19 := Lib.hid hv
  clear hv
  refine hK.out _ _ hy5 ?_
  clear hK K
  try simp only [Act.put, List.setIfInBounds_toArray, List.set_cons_zero, List.set_cons_succ]
  refine wpM_step (i := 7) (o := ⟨some 22, _, _, _, _, _⟩) rfl (by decide +kernel) (by decide) (fun K hK => ?_)
  go_simp
  refine (RMul_any _ _ z0 z1 8 y5 (B0.out.below hy5) (B1.out.below hy5) (by decide)).mono ?_
  rintro e y6 ⟨v22, rfl, hv, hc⟩
  have hy6 : Below w2.heap.size w2 y6 := hy5.trans (hc.mono hy5.size)
  replace P16 := Lib.hid (P16.out.below hc)
  replace P18 := Lib.hid (P18.out.below hc)
  replace P19 := Lib.hid (P19.out.below hc)
  have P22 := Lib.hid hv
  clear hv
  refine hK.out _ _ hy6 ?_
  clear hK K
  try simp only [Act.put, List.setIfInBounds_toArray, List.set_cons_zero, List.set_cons_succ]
  refine wpM_step (i := 8) (o := ⟨some 23, _, _, _, _, _⟩) rfl (by decide +kernel) (by decide) (fun K hK => ?_)
  go_simp
  refine (Same_nb P19.out P22.out (by decide)).mono ?_
  rintro e y7 ⟨rfl, hc⟩
  have hy7 : Below w2.heap.size w2 y7 := hy6.trans (hc.mono hy6.size)
  replace P16 := Lib.hid (P16.out.below hc)
  replace P18 := Lib.hid (P18.out.below hc)
  replace P19 := Lib.hid (P19.out.below hc)
  replace P22 := Lib.hid (P22.out.below hc)
  refine hK.out _ _ hy7 ?_
  clear hK K
  try simp only [Act.put, List.setIfInBounds_toArray, List.set_cons_zero, List.set_cons_succ]
  refine wpM_done (by decide +kernel) ?_
  simp only [List.drop_succ_cons, List.drop_zero]
  have HF := Lib.hid (HB.out.trans (hy7.mono HB.out.size))
  go_wp2
  go_ret
  exact ⟨rfl, HF.out⟩
end Go.Proofs.YtndkcimdbidgaaaDoor
