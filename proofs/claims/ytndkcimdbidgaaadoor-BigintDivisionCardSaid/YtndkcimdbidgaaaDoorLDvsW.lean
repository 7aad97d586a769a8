/- The walk of law BigintDivision. -/
import Derived.Test.YtndkcimdbidgaaaDoorBqi
import Derived.Test.YtndkcimdbidgaaaDoorBrs
namespace Go.Proofs.YtndkcimdbidgaaaDoor
open Go.ChangeShapes Go.WideShapes Go.ChangeAt Go.RowKit Go.ChangeMaps

set_option maxRecDepth 100000 in
set_option maxHeartbeats 4000000 in
theorem bigintDivision_walk (x0 : Bool) (A0 : Option Addr) (n0 c0 : Nat) (D0 : List Nat) (x1 : Bool) (A1 : Option Addr) (n1 c1 : Nat) (D1 : List Nat) (w : World) (k0 : DG w A0 n0 D0) (l0 : Sl A0 n0 c0) (k1 : DG w A1 n1 D1) (l1 : Sl A1 n1 c1) (hE : EnvB w) : Calls Tryd.prog 7 #[.agg #[.bool x0, .slice A0 n0 c0], .agg #[.bool x1, .slice A1 n1 c1]] w fun e w' => e = .returned (.bool true) ∧ Below w.heap.size w w' := by
  have HE := Lib.hid hE
  clear hE
  obtain ⟨w0, hw0⟩ : ∃ W, W = (w.alloc (.cells #[.bool x0, .slice A0 n0 c0] 24)).alloc (.cells #[.bool x1, .slice A1 n1 c1] 24) := ⟨_, rfl⟩
  have hb0 : Below w.heap.size w w0 := by rw [hw0]; exact (((Below.refl _ w).alloc (Nat.le_refl _) _).alloc (by first | (simp; done) | (simp; omega)) _)
  have HB := Lib.hid hb0
  replace HE := Lib.hid (HE.out.below hb0)
  have K2 := Lib.hid (show Blk w0 (w.heap.size) 24 #[.bool x0, .slice A0 n0 c0] by rw [hw0]; exact ((Blk.new _ _ _).alloc _))
  have G0 := Lib.hid (show DG w0 A0 n0 D0 from k0.below hb0)
  have L0 := Lib.hid l0
  obtain ⟨z0, hz0⟩ : ∃ z, z = sgn x0 (dv 4294967296 D0) := ⟨_, rfl⟩
  have Z0 := Lib.hid hz0
  clear hz0 k0 l0
  have K3 := Lib.hid (show Blk w0 (w.heap.size + 1) 24 #[.bool x1, .slice A1 n1 c1] by rw [hw0]; exact Blk.new_ (by simp) rfl)
  have G1 := Lib.hid (show DG w0 A1 n1 D1 from k1.below hb0)
  have L1 := Lib.hid l1
  obtain ⟨z1, hz1⟩ : ∃ z, z = sgn x1 (dv 4294967296 D1) := ⟨_, rfl⟩
  have Z1 := Lib.hid hz1
  clear hz1 k1 l1
  clear hb0
  go_enter Tryd.func7, Tryd.ntmps7
  go_wp2_with fail
  rw [← hw0]
  clear hw0
  refine (awake_any _ HE.out).mono ?_
  rintro e w1 ⟨rfl, hb⟩
  replace K2 := Lib.hid (K2.out.below hb)
  replace G0 := Lib.hid (G0.out.below hb)
  replace K3 := Lib.hid (K3.out.below hb)
  replace G1 := Lib.hid (G1.out.below hb)
  replace HE := Lib.hid (HE.out.below hb)
  replace HB := Lib.hid (HB.out.trans (hb.mono HB.out.size))
  clear hb
  have k2_0 : w1.cell? ⟨w.heap.size, 0, none⟩ = some (.bool x0) := K2.out.cell 0
  have k2_1 : w1.cell? ⟨w.heap.size, 1, none⟩ = some (.slice A0 n0 c0) := K2.out.cell 1
  have k3_0 : w1.cell? ⟨w.heap.size + 1, 0, none⟩ = some (.bool x1) := K3.out.cell 0
  have k3_1 : w1.cell? ⟨w.heap.size + 1, 1, none⟩ = some (.slice A1 n1 c1) := K3.out.cell 1
  obtain ⟨wb, hwb⟩ : ∃ W, W = w1.alloc (.cells #[.bool x0, .slice A0 n0 c0, .bool x1, .slice A1 n1 c1] 24) := ⟨_, rfl⟩
  have hbb : Below w1.heap.size w1 wb := by rw [hwb]; exact (Below.refl _ _).alloc (Nat.le_refl _) _
  have KB : Blk wb w1.heap.size 24 #[.bool x0, .slice A0 n0 c0, .bool x1, .slice A1 n1 c1] := by rw [hwb]; exact Blk.new _ _ _
  have CS := Lib.hid (small_any [(x0, A0, n0, c0), (x1, A1, n1, c1)] w1.heap.size 2 wb KB.lt (fun j v h => (KB.cell j).trans (by simpa [bigc] using h)) (by simp))
  clear KB
  go_wp2_with fail
  rw [← hwb]
  clear hwb
  clear k2_0 k2_1 k3_0 k3_1
  replace K2 := Lib.hid (K2.out.below hbb)
  replace G0 := Lib.hid (G0.out.below hbb)
  replace K3 := Lib.hid (K3.out.below hbb)
  replace G1 := Lib.hid (G1.out.below hbb)
  replace HE := Lib.hid (HE.out.below hbb)
  replace HB := Lib.hid (HB.out.trans (hbb.mono HB.out.size))
  clear hbb
  refine CS.out.mono ?_
  rintro e w2 ⟨b, rfl, hsm, hb⟩
  clear CS
  replace K2 := Lib.hid (K2.out.below hb)
  replace G0 := Lib.hid (G0.out.below hb)
  replace K3 := Lib.hid (K3.out.below hb)
  replace G1 := Lib.hid (G1.out.below hb)
  replace HE := Lib.hid (HE.out.below hb)
  replace HB := Lib.hid (HB.out.trans (hb.mono HB.out.size))
  clear hb
  have HSM := Lib.hid hsm
  clear hsm
  cases b
  · go_wp2_with fail
    refine (awake_any _ HE.out).mono ?_
    rintro e wz ⟨rfl, hb⟩
    have HBz := Lib.hid (HB.out.trans (hb.mono HB.out.size))
    clear hb
    go_wp2
    go_ret
    exact ⟨rfl, HBz.out⟩

  have h80 : n0 ≤ 8 := HSM.out rfl (x0, A0, n0, c0) (by simp)
  have h81 : n1 ≤ 8 := HSM.out rfl (x1, A1, n1, c1) (by simp)
  have B0 := Lib.hid (show BG w2 (.agg #[.bool x0, .slice A0 n0 c0]) z0 8 from ⟨x0, A0, n0, c0, D0, rfl, G0.out, L0.out, h80, Z0.out⟩)
  clear G0 L0
  have B1 := Lib.hid (show BG w2 (.agg #[.bool x1, .slice A1 n1 c1]) z1 8 from ⟨x1, A1, n1, c1, D1, rfl, G1.out, L1.out, h81, Z1.out⟩)
  clear G1 L1
  clear HSM h80 h81
  obtain ⟨q, r, okb, hq⟩ := ok_of z0 z1
  have HQ := Lib.hid hq
  clear hq
  have k2_0 : w2.cell? ⟨w.heap.size, 0, none⟩ = some (.bool x0) := K2.out.cell 0
  have k2_1 : w2.cell? ⟨w.heap.size, 1, none⟩ = some (.slice A0 n0 c0) := K2.out.cell 1
  have k3_0 : w2.cell? ⟨w.heap.size + 1, 0, none⟩ = some (.bool x1) := K3.out.cell 0
  have k3_1 : w2.cell? ⟨w.heap.size + 1, 1, none⟩ = some (.slice A1 n1 c1) := K3.out.cell 1
  go_wp2_with fail
  have hS0 : Below w2.heap.size w2 w2.drew := below_drew (Below.refl _ _)
  refine wp_region_mix 13 (fun w' => Below w2.heap.size w2 w') (by kernel_rfl) (by decide) ?_
  generalize w2.drew = y0 at hS0 ⊢
  refine wpM_take (i := 0) (oi := ⟨some 22, _, _, _, _, _⟩) (v := ?_) rfl (by decide +kernel) (by decide +kernel) (by decide +kernel) (fun _ _ _ h => h) (Or.inl ⟨by rfl, ?_⟩) hS0 ?_
  case refine_2 =>
    intro w' hSw
    have k2_0' := keepcell hSw k2_0
    have k2_1' := keepcell hSw k2_1
    go_simp
    try (with_reducible rfl)
  try simp only [Act.put, List.setIfInBounds_toArray, List.set_cons_zero, List.set_cons_succ]
  refine wpM_take (i := 2) (oi := ⟨some 24, _, _, _, _, _⟩) (v := ?_) rfl (by decide +kernel) (by decide +kernel) (by decide +kernel) (fun _ _ _ h => h) (Or.inl ⟨by rfl, ?_⟩) hS0 ?_
  case refine_2 =>
    intro w' hSw
    have k3_0' := keepcell hSw k3_0
    have k3_1' := keepcell hSw k3_1
    go_simp
    try (with_reducible rfl)
  try simp only [Act.put, List.setIfInBounds_toArray, List.set_cons_zero, List.set_cons_succ]
  clear k2_0 k2_1 k3_0 k3_1
  refine wpM_inv2 (fun i => if i = 1 then 23 else if i = 3 then 25 else if i = 4 then 26 else if i = 5 then 21 else if i = 6 then 27 else if i = 7 then 28 else if i = 8 then 29 else if i = 9 then 5 else if i = 10 then 6 else if i = 11 then 1000 else if i = 12 then 1001 else 2000) [1, 3, 4, 5, 6, 7, 8, 9, 10, 11, 12] (TI w2 z0 z1 q r okb) (by decide +kernel) (fun _ _ _ h => h.below) (TI.start hS0) ?_ ?_
  · refine List.forall_mem_cons.2 ⟨?_, List.forall_mem_cons.2 ⟨?_, List.forall_mem_cons.2 ⟨?_, List.forall_mem_cons.2 ⟨?_, List.forall_mem_cons.2 ⟨?_, List.forall_mem_cons.2 ⟨?_, List.forall_mem_cons.2 ⟨?_, List.forall_mem_cons.2 ⟨?_, List.forall_mem_cons.2 ⟨?_, List.forall_mem_cons.2 ⟨?_, List.forall_mem_cons.2 ⟨?_, List.forall_mem_nil _⟩⟩⟩⟩⟩⟩⟩⟩⟩⟩⟩
    · refine ⟨⟨some 23, _, _, _, _, _⟩, rfl, Or.inl rfl, fun d vs W K hI hdi hd hK => ?_⟩
      simp only [puts, List.foldl_cons, List.foldl_nil, Act.put, List.setIfInBounds_toArray, List.set_cons_zero, List.set_cons_succ, Nat.reduceAdd, Nat.reduceSub, Nat.reduceEqDiff, ↓reduceIte, reduceCtorEq] at hK ⊢
      go_simp
      refine (cp_bg W _ z0 8 (B0.out.below hI.below) (by decide)).mono ?_
      rintro e W' ⟨v, rfl, hv, hb⟩
      exact hK _ _ ((hI.grow hb).put1 hdi (hv.mono hI.below.size))
    · refine ⟨⟨some 25, _, _, _, _, _⟩, rfl, Or.inl rfl, fun d vs W K hI hdi hd hK => ?_⟩
      simp only [puts, List.foldl_cons, List.foldl_nil, Act.put, List.setIfInBounds_toArray, List.set_cons_zero, List.set_cons_succ, Nat.reduceAdd, Nat.reduceSub, Nat.reduceEqDiff, ↓reduceIte, reduceCtorEq] at hK ⊢
      go_simp
      refine (cp_bg W _ z1 8 (B1.out.below hI.below) (by decide)).mono ?_
      rintro e W' ⟨v, rfl, hv, hb⟩
      exact hK _ _ ((hI.grow hb).put3 hdi (hv.mono hI.below.size))
    · refine ⟨⟨some 26, _, _, _, _, _⟩, rfl, Or.inl rfl, fun d vs W K hI hdi hd hK => ?_⟩
      have dd1 := hd 1 (by decide) (by decide +kernel)
      have dd3 := hd 3 (by decide) (by decide +kernel)
      simp only [puts, List.foldl_cons, List.foldl_nil, Act.put, List.setIfInBounds_toArray, List.set_cons_zero, List.set_cons_succ, Nat.reduceAdd, Nat.reduceSub, Nat.reduceEqDiff, ↓reduceIte, reduceCtorEq] at hK ⊢
      go_simp
      refine (DivFloor_tu w2 _ _ z0 z1 q r okb W hI.below.size (hI.c1 dd1).bg (hI.c3 dd3).bg HQ.out).mono ?_
      rintro e W' ⟨⟨v, rfl, hv⟩, hb⟩
      exact hK _ _ ((hI.grow hb).put4 hdi hv)
    · refine ⟨⟨some 21, _, _, _, _, _⟩, rfl, Or.inl rfl, fun d vs W K hI hdi hd hK => ?_⟩
      have dd4 := hd 4 (by decide) (by decide +kernel)
      have T4 := hI.t4 dd4
      clear hd
      simp only [puts, List.foldl_cons, List.foldl_nil, Act.put, List.setIfInBounds_toArray, List.set_cons_zero, List.set_cons_succ, Nat.reduceAdd, Nat.reduceSub, Nat.reduceEqDiff, ↓reduceIte, reduceCtorEq] at hK ⊢
      obtain ⟨vq, vr, e4, f1, f2⟩ := T4
      simp only [e4] at hK ⊢
      go_simp
      exact hK _ _ (hI.put5 hdi ⟨vq, vr, rfl, f1, f2⟩)
    · refine ⟨⟨some 27, _, _, _, _, _⟩, rfl, Or.inl rfl, fun d vs W K hI hdi hd hK => ?_⟩
      have dd5 := hd 5 (by decide) (by decide +kernel)
      have T5 := hI.t5 dd5
      clear hd
      simp only [puts, List.foldl_cons, List.foldl_nil, Act.put, List.setIfInBounds_toArray, List.set_cons_zero, List.set_cons_succ, Nat.reduceAdd, Nat.reduceSub, Nat.reduceEqDiff, ↓reduceIte, reduceCtorEq] at hK ⊢
      obtain ⟨vq, vr, e5, f1, f2⟩ := T5
      simp only [e5] at hK ⊢
      go_simp
      exact hK _ _ (hI.put6 hdi f1)
    · refine ⟨⟨some 28, _, _, _, _, _⟩, rfl, Or.inl rfl, fun d vs W K hI hdi hd hK => ?_⟩
      have dd5 := hd 5 (by decide) (by decide +kernel)
      have T5 := hI.t5 dd5
      clear hd
      simp only [puts, List.foldl_cons, List.foldl_nil, Act.put, List.setIfInBounds_toArray, List.set_cons_zero, List.set_cons_succ, Nat.reduceAdd, Nat.reduceSub, Nat.reduceEqDiff, ↓reduceIte, reduceCtorEq] at hK ⊢
      obtain ⟨vq, vr, e5, f1, f2⟩ := T5
      simp only [e5] at hK ⊢
      go_simp
      exact hK _ _ (hI.put7 hdi f2)
    · refine ⟨⟨some 29, _, _, _, _, _⟩, rfl, Or.inl rfl, fun d vs W K hI hdi hd hK => ?_⟩
      have dd5 := hd 5 (by decide) (by decide +kernel)
      have T5 := hI.t5 dd5
      clear hd
      simp only [puts, List.foldl_cons, List.foldl_nil, Act.put, List.setIfInBounds_toArray, List.set_cons_zero, List.set_cons_succ, Nat.reduceAdd, Nat.reduceSub, Nat.reduceEqDiff, ↓reduceIte, reduceCtorEq] at hK ⊢
      obtain ⟨vq, vr, e5, f1, f2⟩ := T5
      simp only [e5] at hK ⊢
      go_simp
      exact hK _ _ (hI.put8 hdi rfl)
    · refine ⟨⟨some 5, _, _, _, _, _⟩, rfl, Or.inl rfl, fun d vs W K hI hdi hd hK => ?_⟩
      simp only [puts, List.foldl_cons, List.foldl_nil, Act.put, List.setIfInBounds_toArray, List.set_cons_zero, List.set_cons_succ, Nat.reduceAdd, Nat.reduceSub, Nat.reduceEqDiff, ↓reduceIte, reduceCtorEq] at hK ⊢
      go_simp
      exact hK _ _ ((hI.grow ((Below.refl _ _).alloc (Nat.le_refl _) _)).put9 hdi ⟨_, _, _, _, _, rfl, hI.below.size, Blk.new _ _ _, fun e => by cases e⟩ (fun e => (hI.a10 e).lt.symm))
    · refine ⟨⟨some 6, _, _, _, _, _⟩, rfl, Or.inl rfl, fun d vs W K hI hdi hd hK => ?_⟩
      simp only [puts, List.foldl_cons, List.foldl_nil, Act.put, List.setIfInBounds_toArray, List.set_cons_zero, List.set_cons_succ, Nat.reduceAdd, Nat.reduceSub, Nat.reduceEqDiff, ↓reduceIte, reduceCtorEq] at hK ⊢
      go_simp
      exact hK _ _ ((hI.grow ((Below.refl _ _).alloc (Nat.le_refl _) _)).put10 hdi ⟨_, _, _, _, _, rfl, hI.below.size, Blk.new _ _ _, fun e => by cases e⟩ (fun e => (hI.a9 e).lt))
    · refine ⟨⟨none, _, _, _, _, _⟩, rfl, Or.inr ⟨rfl, by first | decide | simp⟩, fun d vs W K hI hdi hd hK => ?_⟩
      have dd9 := hd 9 (by decide) (by decide +kernel)
      have dd6 := hd 6 (by decide) (by decide +kernel)
      have T1 := hI.a9 dd9
      have T2 := (hI.e6 dd6).1
      clear hd
      simp only [puts, List.foldl_cons, List.foldl_nil, Act.put, List.setIfInBounds_toArray, List.set_cons_zero, List.set_cons_succ, Nat.reduceAdd, Nat.reduceSub, Nat.reduceEqDiff, ↓reduceIte, reduceCtorEq] at hK ⊢
      obtain ⟨g, s, A, n, c, e9, hg, hk, _⟩ := T1
      obtain ⟨s', A', n', c', e6⟩ := T2
      simp only [e9, e6] at hK ⊢
      rw [if_pos (show Region.wanted _ _ = true from rfl)]
      refine wp_store_row 24 _ _ rfl g #[.bool s', .slice A' n' c'] rfl rfl 24 _ hk (by kernel_rfl) rfl (by simp [Value.oneCell']) ?_
      exact hK undef _ (hI.sto11 dd9 dd6 e9 hg hk e6)
    · refine ⟨⟨none, _, _, _, _, _⟩, rfl, Or.inr ⟨rfl, by first | decide | simp⟩, fun d vs W K hI hdi hd hK => ?_⟩
      have dd10 := hd 10 (by decide) (by decide +kernel)
      have dd7 := hd 7 (by decide) (by decide +kernel)
      have T1 := hI.a10 dd10
      have T2 := (hI.e7 dd7).1
      clear hd
      simp only [puts, List.foldl_cons, List.foldl_nil, Act.put, List.setIfInBounds_toArray, List.set_cons_zero, List.set_cons_succ, Nat.reduceAdd, Nat.reduceSub, Nat.reduceEqDiff, ↓reduceIte, reduceCtorEq] at hK ⊢
      obtain ⟨g, s, A, n, c, e10, hg, hk, _⟩ := T1
      obtain ⟨s', A', n', c', e7⟩ := T2
      simp only [e10, e7] at hK ⊢
      rw [if_pos (show Region.wanted _ _ = true from rfl)]
      refine wp_store_row 24 _ _ rfl g #[.bool s', .slice A' n' c'] rfl rfl 24 _ hk (by kernel_rfl) rfl (by simp [Value.oneCell']) ?_
      exact hK undef _ (hI.sto12 dd10 dd7 e10 hg hk e7)
  · intro d vs W hd hI
    have hS := hI.below
    simp only [puts, List.foldl_cons, List.foldl_nil, Act.put, List.setIfInBounds_toArray, List.set_cons_zero, List.set_cons_succ, Nat.reduceAdd, Nat.reduceSub, Nat.reduceEqDiff, ↓reduceIte, reduceCtorEq]
    have T5 := hI.a9 (hd 9 (by decide))
    obtain ⟨g5, s5, A5, n5, c5, e5, l5, b5, q5⟩ := T5
    replace q5 := q5 (hd 11 (by decide))
    have V5 := hI.e6 (hd 6 (by decide))
    rw [q5] at V5
    replace V5 := Lib.hid V5
    have K5 := Lib.hid b5
    clear b5 l5
    have T6 := hI.a10 (hd 10 (by decide))
    obtain ⟨g6, s6, A6, n6, c6, e6, l6, b6, q6⟩ := T6
    replace q6 := q6 (hd 12 (by decide))
    have V6 := hI.e7 (hd 7 (by decide))
    rw [q6] at V6
    replace V6 := Lib.hid V6
    have K6 := Lib.hid b6
    clear b6 l6
    have d8 := hI.e8 (hd 8 (by decide))
    simp only [e5, e6, q5, q6, d8]
    clear d8 e5 e6 q5 q6 hd hI hS0
    simp only [List.drop_succ_cons, List.drop_zero]
    replace K2 := Lib.hid (K2.out.below hS)
    replace K3 := Lib.hid (K3.out.below hS)
    replace HE := Lib.hid (HE.out.below hS)
    replace B0 := Lib.hid (B0.out.below hS)
    replace B1 := Lib.hid (B1.out.below hS)
    replace HB := Lib.hid (HB.out.trans (hS.mono HB.out.size))
    clear hS
    rcases HQ.out with ⟨rfl, hz, hqr⟩ | ⟨rfl, hz⟩
    · clear HQ
      have HZ1 := Lib.hid hz
      have HQR := Lib.hid hqr
      clear hz hqr
      replace V5 := Lib.hid (V5.out.2.1 rfl)
      replace V6 := Lib.hid (V6.out.2.1 rfl)
      have k2_0 : W.cell? ⟨w.heap.size, 0, none⟩ = some (.bool x0) := K2.out.cell 0
      have k2_1 : W.cell? ⟨w.heap.size, 1, none⟩ = some (.slice A0 n0 c0) := K2.out.cell 1
      have k3_0 : W.cell? ⟨w.heap.size + 1, 0, none⟩ = some (.bool x1) := K3.out.cell 0
      have k3_1 : W.cell? ⟨w.heap.size + 1, 1, none⟩ = some (.slice A1 n1 c1) := K3.out.cell 1
      have CR := Lib.hid (RDivFloor_qr _ _ z0 z1 q r 8 W B0.out B1.out (by decide) HZ1.out HQR.out)
      go_wp2_with fail
      clear k2_0 k2_1 k3_0 k3_1
      refine CR.out.mono ?_
      rintro e w3 ⟨vq, vr, rfl, h1, h2, hb⟩
      clear CR
      have V8 := Lib.hid h1
      have V9 := Lib.hid h2
      obtain ⟨s8, A8, n8, c8, e8⟩ := h1.expose
      obtain ⟨s9, A9, n9, c9, e9⟩ := h2.expose
      subst e8
      subst e9
      clear h1 h2
      replace K2 := Lib.hid (K2.out.below hb)
      replace K3 := Lib.hid (K3.out.below hb)
      replace HE := Lib.hid (HE.out.below hb)
      replace B0 := Lib.hid (B0.out.below hb)
      replace B1 := Lib.hid (B1.out.below hb)
      replace K5 := Lib.hid (K5.out.below hb)
      replace V5 := Lib.hid (V5.out.below hb)
      replace K6 := Lib.hid (K6.out.below hb)
      replace V6 := Lib.hid (V6.out.below hb)
      replace HB := Lib.hid (HB.out.trans (hb.mono HB.out.size))
      clear hb
      obtain ⟨WA, hWA⟩ : ∃ W, W = (w3.alloc (.cells #[.bool s8, .slice A8 n8 c8] 24)).alloc (.cells #[.bool s9, .slice A9 n9 c9] 24) := ⟨_, rfl⟩
      have hbA : Below w3.heap.size w3 WA := by rw [hWA]; exact ((Below.refl _ _).alloc (Nat.le_refl _) _).alloc (by simp) _
      have KA := Lib.hid (show Blk WA w3.heap.size 24 #[.bool s8, .slice A8 n8 c8] by rw [hWA]; exact (Blk.new _ _ _).alloc _)
      have KB := Lib.hid (show Blk WA (w3.heap.size + 1) 24 #[.bool s9, .slice A9 n9 c9] by rw [hWA]; exact Blk.new_ (by simp) rfl)
      obtain ⟨g8, hg8⟩ : ∃ g, w3.heap.size = g := ⟨_, rfl⟩
      rw [hg8] at KA KB
      have K8 := KA
      have K9 := KB
      clear KA KB
      have HG8 := Lib.hid hg8
      replace K2 := Lib.hid (K2.out.below hbA)
      replace K3 := Lib.hid (K3.out.below hbA)
      replace HE := Lib.hid (HE.out.below hbA)
      replace B0 := Lib.hid (B0.out.below hbA)
      replace B1 := Lib.hid (B1.out.below hbA)
      replace K5 := Lib.hid (K5.out.below hbA)
      replace V5 := Lib.hid (V5.out.below hbA)
      replace K6 := Lib.hid (K6.out.below hbA)
      replace V6 := Lib.hid (V6.out.below hbA)
      replace V8 := Lib.hid (V8.out.below hbA)
      replace V9 := Lib.hid (V9.out.below hbA)
      replace HB := Lib.hid (HB.out.trans (hbA.mono HB.out.size))
      clear hbA
      go_upto_region 5 with fail
      rw [← hWA]
      clear hWA hg8
      have k5_0 : WA.cell? ⟨g5, 0, none⟩ = some (.bool s5) := K5.out.cell 0
      have k5_1 : WA.cell? ⟨g5, 1, none⟩ = some (.slice A5 n5 c5) := K5.out.cell 1
      have k8_0 : WA.cell? ⟨g8, 0, none⟩ = some (.bool s8) := K8.out.cell 0
      have k8_1 : WA.cell? ⟨g8, 1, none⟩ = some (.slice A8 n8 c8) := K8.out.cell 1
      have CS := Lib.hid (Same_nb V5.out V8.out (by decide))
      go_wp2_with fail
      clear k5_0 k5_1 k8_0 k8_1
      refine (CS.out).mono ?_
      rintro e w4 ⟨rfl, hb⟩
      replace K2 := Lib.hid (K2.out.below hb)
      replace K3 := Lib.hid (K3.out.below hb)
      replace HE := Lib.hid (HE.out.below hb)
      replace B0 := Lib.hid (B0.out.below hb)
      replace B1 := Lib.hid (B1.out.below hb)
      replace K5 := Lib.hid (K5.out.below hb)
      replace V5 := Lib.hid (V5.out.below hb)
      replace K6 := Lib.hid (K6.out.below hb)
      replace V6 := Lib.hid (V6.out.below hb)
      replace K8 := Lib.hid (K8.out.below hb)
      replace K9 := Lib.hid (K9.out.below hb)
      replace V8 := Lib.hid (V8.out.below hb)
      replace V9 := Lib.hid (V9.out.below hb)
      replace HB := Lib.hid (HB.out.trans (hb.mono HB.out.size))
      clear hb
      clear CS
      have k6_0 : w4.cell? ⟨g6, 0, none⟩ = some (.bool s6) := K6.out.cell 0
      have k6_1 : w4.cell? ⟨g6, 1, none⟩ = some (.slice A6 n6 c6) := K6.out.cell 1
      have k9_0 : w4.cell? ⟨(g8 + 1), 0, none⟩ = some (.bool s9) := K9.out.cell 0
      have k9_1 : w4.cell? ⟨(g8 + 1), 1, none⟩ = some (.slice A9 n9 c9) := K9.out.cell 1
      have CS := Lib.hid (Same_nb V6.out V9.out (by decide))
      go_wp2_with fail
      clear k6_0 k6_1 k9_0 k9_1
      refine (CS.out).mono ?_
      rintro e w5 ⟨rfl, hb⟩
      replace K2 := Lib.hid (K2.out.below hb)
      replace K3 := Lib.hid (K3.out.below hb)
      replace HE := Lib.hid (HE.out.below hb)
      replace B0 := Lib.hid (B0.out.below hb)
      replace B1 := Lib.hid (B1.out.below hb)
      replace K5 := Lib.hid (K5.out.below hb)
      replace V5 := Lib.hid (V5.out.below hb)
      replace K6 := Lib.hid (K6.out.below hb)
      replace V6 := Lib.hid (V6.out.below hb)
      replace K8 := Lib.hid (K8.out.below hb)
      replace K9 := Lib.hid (K9.out.below hb)
      replace V8 := Lib.hid (V8.out.below hb)
      replace V9 := Lib.hid (V9.out.below hb)
      replace HB := Lib.hid (HB.out.trans (hb.mono HB.out.size))
      clear hb
      clear CS
      go_wp2
      go_ret
      exact ⟨rfl, HB.out⟩
    · clear HQ
      have HZ1 := Lib.hid hz
      clear hz
      have e5 := V5.out.2.2 rfl
      have e6 := V6.out.2.2 rfl
      injection e5 with e5
      injection e6 with e6
      clear V5 V6
      simp only [Array.mk.injEq, List.cons.injEq, Value.bool.injEq, Value.slice.injEq, and_true] at e5 e6
      obtain ⟨rfl, rfl, rfl, rfl⟩ := e5
      obtain ⟨rfl, rfl, rfl, rfl⟩ := e6
      have k2_0 : W.cell? ⟨w.heap.size, 0, none⟩ = some (.bool x0) := K2.out.cell 0
      have k2_1 : W.cell? ⟨w.heap.size, 1, none⟩ = some (.slice A0 n0 c0) := K2.out.cell 1
      have k3_0 : W.cell? ⟨w.heap.size + 1, 0, none⟩ = some (.bool x1) := K3.out.cell 0
      have k3_1 : W.cell? ⟨w.heap.size + 1, 1, none⟩ = some (.slice A1 n1 c1) := K3.out.cell 1
      have CR := Lib.hid (RDivFloor_zero _ _ z0 8 W B0.out (HZ1.out ▸ B1.out) (by decide))
      go_wp2_with fail
      clear k2_0 k2_1 k3_0 k3_1
      refine CR.out.mono ?_
      rintro e w3 ⟨rfl, hb⟩
      clear CR
      replace K2 := Lib.hid (K2.out.below hb)
      replace K3 := Lib.hid (K3.out.below hb)
      replace HE := Lib.hid (HE.out.below hb)
      replace B0 := Lib.hid (B0.out.below hb)
      replace B1 := Lib.hid (B1.out.below hb)
      replace K5 := Lib.hid (K5.out.below hb)
      replace K6 := Lib.hid (K6.out.below hb)
      replace HB := Lib.hid (HB.out.trans (hb.mono HB.out.size))
      clear hb
      obtain ⟨WA, hWA⟩ : ∃ W, W = (w3.alloc (.cells #[.bool false, .slice none 0 0] 24)).alloc (.cells #[.bool false, .slice none 0 0] 24) := ⟨_, rfl⟩
      have hbA : Below w3.heap.size w3 WA := by rw [hWA]; exact ((Below.refl _ _).alloc (Nat.le_refl _) _).alloc (by simp) _
      have KA := Lib.hid (show Blk WA w3.heap.size 24 #[.bool false, .slice none 0 0] by rw [hWA]; exact (Blk.new _ _ _).alloc _)
      have KB := Lib.hid (show Blk WA (w3.heap.size + 1) 24 #[.bool false, .slice none 0 0] by rw [hWA]; exact Blk.new_ (by simp) rfl)
      obtain ⟨g8, hg8⟩ : ∃ g, w3.heap.size = g := ⟨_, rfl⟩
      rw [hg8] at KA KB
      have K8 := KA
      have K9 := KB
      clear KA KB
      have HG8 := Lib.hid hg8
      replace K2 := Lib.hid (K2.out.below hbA)
      replace K3 := Lib.hid (K3.out.below hbA)
      replace HE := Lib.hid (HE.out.below hbA)
      replace B0 := Lib.hid (B0.out.below hbA)
      replace B1 := Lib.hid (B1.out.below hbA)
      replace K5 := Lib.hid (K5.out.below hbA)
      replace K6 := Lib.hid (K6.out.below hbA)
      replace HB := Lib.hid (HB.out.trans (hbA.mono HB.out.size))
      clear hbA
      go_upto_region 5 with fail
      rw [← hWA]
      clear hWA hg8
      have k5_0 : WA.cell? ⟨g5, 0, none⟩ = some (.bool false) := K5.out.cell 0
      have k5_1 : WA.cell? ⟨g5, 1, none⟩ = some (.slice none 0 0) := K5.out.cell 1
      have k8_0 : WA.cell? ⟨g8, 0, none⟩ = some (.bool false) := K8.out.cell 0
      have k8_1 : WA.cell? ⟨g8, 1, none⟩ = some (.slice none 0 0) := K8.out.cell 1
      have CS := Lib.hid (Same_any false none 0 0 [] none 0 WA (DG.empty _ _) (DG.empty _ _) (by decide))
      go_wp2_with fail
      clear k5_0 k5_1 k8_0 k8_1
      refine (CS.out).mono ?_
      rintro e w4 ⟨rfl, hb⟩
      replace K2 := Lib.hid (K2.out.below hb)
      replace K3 := Lib.hid (K3.out.below hb)
      replace HE := Lib.hid (HE.out.below hb)
      replace B0 := Lib.hid (B0.out.below hb)
      replace B1 := Lib.hid (B1.out.below hb)
      replace K5 := Lib.hid (K5.out.below hb)
      replace K6 := Lib.hid (K6.out.below hb)
      replace K8 := Lib.hid (K8.out.below hb)
      replace K9 := Lib.hid (K9.out.below hb)
      replace HB := Lib.hid (HB.out.trans (hb.mono HB.out.size))
      clear hb
      clear CS
      have k6_0 : w4.cell? ⟨g6, 0, none⟩ = some (.bool false) := K6.out.cell 0
      have k6_1 : w4.cell? ⟨g6, 1, none⟩ = some (.slice none 0 0) := K6.out.cell 1
      have k9_0 : w4.cell? ⟨(g8 + 1), 0, none⟩ = some (.bool false) := K9.out.cell 0
      have k9_1 : w4.cell? ⟨(g8 + 1), 1, none⟩ = some (.slice none 0 0) := K9.out.cell 1
      have CS := Lib.hid (Same_any false none 0 0 [] none 0 w4 (DG.empty _ _) (DG.empty _ _) (by decide))
      go_wp2_with fail
      clear k6_0 k6_1 k9_0 k9_1
      refine (CS.out).mono ?_
      rintro e w5 ⟨rfl, hb⟩
      replace K2 := Lib.hid (K2.out.below hb)
      replace K3 := Lib.hid (K3.out.below hb)
      replace HE := Lib.hid (HE.out.below hb)
      replace B0 := Lib.hid (B0.out.below hb)
      replace B1 := Lib.hid (B1.out.below hb)
      replace K5 := Lib.hid (K5.out.below hb)
      replace K6 := Lib.hid (K6.out.below hb)
      replace K8 := Lib.hid (K8.out.below hb)
      replace K9 := Lib.hid (K9.out.below hb)
      replace HB := Lib.hid (HB.out.trans (hb.mono HB.out.size))
      clear hb
      clear CS
      go_wp2
      go_ret
      exact ⟨rfl, HB.out⟩
end Go.Proofs.YtndkcimdbidgaaaDoor
