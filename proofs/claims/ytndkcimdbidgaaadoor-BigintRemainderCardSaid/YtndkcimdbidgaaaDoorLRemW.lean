/- The walk of law BigintRemainder. -/
import Derived.Test.YtndkcimdbidgaaaDoorBqi
import Derived.Test.YtndkcimdbidgaaaDoorBmu
import Derived.Test.YtndkcimdbidgaaaDoorBrz
import Derived.Test.YtndkcimdbidgaaaDoorBap
import Derived.Test.YtndkcimdbidgaaaDoorBnm
namespace Go.Proofs.YtndkcimdbidgaaaDoor
open Go.ChangeShapes Go.WideShapes Go.ChangeAt Go.RowKit Go.ChangeMaps

set_option maxRecDepth 100000 in
set_option maxHeartbeats 4000000 in
theorem bigintRemainder_walk (x0 : Bool) (A0 : Option Addr) (n0 c0 : Nat) (D0 : List Nat) (x1 : Bool) (A1 : Option Addr) (n1 c1 : Nat) (D1 : List Nat) (w : World) (k0 : DG w A0 n0 D0) (l0 : Sl A0 n0 c0) (k1 : DG w A1 n1 D1) (l1 : Sl A1 n1 c1) (hE : EnvB w) : Calls Tryd.prog 11 #[.agg #[.bool x0, .slice A0 n0 c0], .agg #[.bool x1, .slice A1 n1 c1]] w fun e w' => e = .returned (.bool true) ∧ Below w.heap.size w w' := by
  have HE := Lib.hid hE
  clear hE
  obtain ⟨w0, hw0⟩ : ∃ W, W = (w.alloc (.cells #[.bool x0, .slice A0 n0 c0] 24)).alloc (.cells #[.bool x1, .slice A1 n1 c1] 24) := ⟨_, rfl⟩
  have hb0 : Below w.heap.size w w0 := by rw [hw0]; exact (((Below.refl _ w).alloc (Nat.le_refl _) _).alloc (by first | (simp; done) | (simp; omega)) _)
  have HB := Lib.hid hb0
  replace HE := Lib.hid (HE.out.below hb0)
  have K2 := Lib.hid (show Blk w0 (w.heap.size) 24 #[.bool x0, .slice A0 n0 c0] by rw [hw0]; exact ((Blk.new _ _ _).alloc _))
  have G0 := Lib.hid (show DG w0 A0 n0 D0 from k0.below hb0)
  have L0 := Lib.hid l0
  obtain ⟨z0, hz0⟩ : ∃ z, z = sgn x0 (dv 4294967296 D0) := ⟨_, rfl⟩
  have Z0 := Lib.hid hz0
  clear hz0 k0 l0
  have K3 := Lib.hid (show Blk w0 (w.heap.size + 1) 24 #[.bool x1, .slice A1 n1 c1] by rw [hw0]; exact Blk.new_ (by simp) rfl)
  have G1 := Lib.hid (show DG w0 A1 n1 D1 from k1.below hb0)
  have L1 := Lib.hid l1
  obtain ⟨z1, hz1⟩ : ∃ z, z = sgn x1 (dv 4294967296 D1) := ⟨_, rfl⟩
  have Z1 := Lib.hid hz1
  clear hz1 k1 l1
  clear hb0
  go_enter Tryd.func11, Tryd.ntmps11
  go_wp2_with fail
  rw [← hw0]
  clear hw0
  refine (awake_any _ HE.out).mono ?_
  rintro e w1 ⟨rfl, hb⟩
  replace K2 := Lib.hid (K2.out.below hb)
  replace G0 := Lib.hid (G0.out.below hb)
  replace K3 := Lib.hid (K3.out.below hb)
  replace G1 := Lib.hid (G1.out.below hb)
  replace HE := Lib.hid (HE.out.below hb)
  replace HB := Lib.hid (HB.out.trans (hb.mono HB.out.size))
  clear hb
  have k2_0 : w1.cell? ⟨w.heap.size, 0, none⟩ = some (.bool x0) := K2.out.cell 0
  have k2_1 : w1.cell? ⟨w.heap.size, 1, none⟩ = some (.slice A0 n0 c0) := K2.out.cell 1
  have k3_0 : w1.cell? ⟨w.heap.size + 1, 0, none⟩ = some (.bool x1) := K3.out.cell 0
  have k3_1 : w1.cell? ⟨w.heap.size + 1, 1, none⟩ = some (.slice A1 n1 c1) := K3.out.cell 1
  obtain ⟨wb, hwb⟩ : ∃ W, W = w1.alloc (.cells #[.bool x0, .slice A0 n0 c0, .bool x1, .slice A1 n1 c1] 24) := ⟨_, rfl⟩
  have hbb : Below w1.heap.size w1 wb := by rw [hwb]; exact (Below.refl _ _).alloc (Nat.le_refl _) _
  have KB : Blk wb w1.heap.size 24 #[.bool x0, .slice A0 n0 c0, .bool x1, .slice A1 n1 c1] := by rw [hwb]; exact Blk.new _ _ _
  have CS := Lib.hid (small_any [(x0, A0, n0, c0), (x1, A1, n1, c1)] w1.heap.size 2 wb KB.lt (fun j v h => (KB.cell j).trans (by simpa [bigc] using h)) (by simp))
  clear KB
  go_wp2_with fail
  rw [← hwb]
  clear hwb
  clear k2_0 k2_1 k3_0 k3_1
  replace K2 := Lib.hid (K2.out.below hbb)
  replace G0 := Lib.hid (G0.out.below hbb)
  replace K3 := Lib.hid (K3.out.below hbb)
  replace G1 := Lib.hid (G1.out.below hbb)
  replace HE := Lib.hid (HE.out.below hbb)
  replace HB := Lib.hid (HB.out.trans (hbb.mono HB.out.size))
  clear hbb
  refine CS.out.mono ?_
  rintro e w2 ⟨b, rfl, hsm, hb⟩
  clear CS
  replace K2 := Lib.hid (K2.out.below hb)
  replace G0 := Lib.hid (G0.out.below hb)
  replace K3 := Lib.hid (K3.out.below hb)
  replace G1 := Lib.hid (G1.out.below hb)
  replace HE := Lib.hid (HE.out.below hb)
  replace HB := Lib.hid (HB.out.trans (hb.mono HB.out.size))
  clear hb
  have HSM := Lib.hid hsm
  clear hsm
  cases b
  · go_wp2_with fail
    refine (awake_any _ HE.out).mono ?_
    rintro e wz ⟨rfl, hb⟩
    have HBz := Lib.hid (HB.out.trans (hb.mono HB.out.size))
    clear hb
    go_wp2
    go_ret
    exact ⟨rfl, HBz.out⟩

  have h80 : n0 ≤ 8 := HSM.out rfl (x0, A0, n0, c0) (by simp)
  have h81 : n1 ≤ 8 := HSM.out rfl (x1, A1, n1, c1) (by simp)
  have B0 := Lib.hid (show BG w2 (.agg #[.bool x0, .slice A0 n0 c0]) z0 8 from ⟨x0, A0, n0, c0, D0, rfl, G0.out, L0.out, h80, Z0.out⟩)
  clear G0 L0
  have B1 := Lib.hid (show BG w2 (.agg #[.bool x1, .slice A1 n1 c1]) z1 8 from ⟨x1, A1, n1, c1, D1, rfl, G1.out, L1.out, h81, Z1.out⟩)
  clear G1 L1
  clear HSM h80 h81
  obtain ⟨q, r, okb, hq⟩ := ok_of z0 z1
  have HQ := Lib.hid hq
  clear hq
  have k2_0 : w2.cell? ⟨w.heap.size, 0, none⟩ = some (.bool x0) := K2.out.cell 0
  have k2_1 : w2.cell? ⟨w.heap.size, 1, none⟩ = some (.slice A0 n0 c0) := K2.out.cell 1
  have k3_0 : w2.cell? ⟨w.heap.size + 1, 0, none⟩ = some (.bool x1) := K3.out.cell 0
  have k3_1 : w2.cell? ⟨w.heap.size + 1, 1, none⟩ = some (.slice A1 n1 c1) := K3.out.cell 1
  go_wp2_with fail
  have hS0 : Below w2.heap.size w2 w2.drew := below_drew (Below.refl _ _)
  refine wp_region_mix 13 (fun w' => Below w2.heap.size w2 w') (by kernel_rfl) (by decide) ?_
  generalize w2.drew = y0 at hS0 ⊢
  refine wpM_take (i := 0) (oi := ⟨some 19, _, _, _, _, _⟩) (v := ?_) rfl (by decide +kernel) (by decide +kernel) (by decide +kernel) (fun _ _ _ h => h) (Or.inl ⟨by rfl, ?_⟩) hS0 ?_
  case refine_2 =>
    intro w' hSw
    have k2_0' := keepcell hSw k2_0
    have k2_1' := keepcell hSw k2_1
    go_simp
    try (with_reducible rfl)
  try simp only [Act.put, List.setIfInBounds_toArray, List.set_cons_zero, List.set_cons_succ]
  refine wpM_take (i := 2) (oi := ⟨some 21, _, _, _, _, _⟩) (v := ?_) rfl (by decide +kernel) (by decide +kernel) (by decide +kernel) (fun _ _ _ h => h) (Or.inl ⟨by rfl, ?_⟩) hS0 ?_
  case refine_2 =>
    intro w' hSw
    have k3_0' := keepcell hSw k3_0
    have k3_1' := keepcell hSw k3_1
    go_simp
    try (with_reducible rfl)
  try simp only [Act.put, List.setIfInBounds_toArray, List.set_cons_zero, List.set_cons_succ]
  clear k2_0 k2_1 k3_0 k3_1
  refine wpM_inv2 (fun i => if i = 1 then 20 else if i = 3 then 22 else if i = 4 then 23 else if i = 5 then 18 else if i = 6 then 24 else if i = 7 then 25 else if i = 8 then 26 else if i = 9 then 5 else if i = 10 then 6 else if i = 11 then 1000 else if i = 12 then 1001 else 2000) [1, 3, 4, 5, 6, 7, 8, 9, 10, 11, 12] (TI w2 z0 z1 q r okb) (by decide +kernel) (fun _ _ _ h => h.below) (TI.start hS0) ?_ ?_
  · refine List.forall_mem_cons.2 ⟨?_, List.forall_mem_cons.2 ⟨?_, List.forall_mem_cons.2 ⟨?_, List.forall_mem_cons.2 ⟨?_, List.forall_mem_cons.2 ⟨?_, List.forall_mem_cons.2 ⟨?_, List.forall_mem_cons.2 ⟨?_, List.forall_mem_cons.2 ⟨?_, List.forall_mem_cons.2 ⟨?_, List.forall_mem_cons.2 ⟨?_, List.forall_mem_cons.2 ⟨?_, List.forall_mem_nil _⟩⟩⟩⟩⟩⟩⟩⟩⟩⟩⟩
    · refine ⟨⟨some 20, _, _, _, _, _⟩, rfl, Or.inl rfl, fun d vs W K hI hdi hd hK => ?_⟩
      simp only [puts, List.foldl_cons, List.foldl_nil, Act.put, List.setIfInBounds_toArray, List.set_cons_zero, List.set_cons_succ, Nat.reduceAdd, Nat.reduceSub, Nat.reduceEqDiff, ↓reduceIte, reduceCtorEq] at hK ⊢
      go_simp
      refine (cp_bg W _ z0 8 (B0.out.below hI.below) (by decide)).mono ?_
      rintro e W' ⟨v, rfl, hv, hb⟩
      exact hK _ _ ((hI.grow hb).put1 hdi (hv.mono hI.below.size))
    · refine ⟨⟨some 22, _, _, _, _, _⟩, rfl, Or.inl rfl, fun d vs W K hI hdi hd hK => ?_⟩
      simp only [puts, List.foldl_cons, List.foldl_nil, Act.put, List.setIfInBounds_toArray, List.set_cons_zero, List.set_cons_succ, Nat.reduceAdd, Nat.reduceSub, Nat.reduceEqDiff, ↓reduceIte, reduceCtorEq] at hK ⊢
      go_simp
      refine (cp_bg W _ z1 8 (B1.out.below hI.below) (by decide)).mono ?_
      rintro e W' ⟨v, rfl, hv, hb⟩
      exact hK _ _ ((hI.grow hb).put3 hdi (hv.mono hI.below.size))
    · refine ⟨⟨some 23, _, _, _, _, _⟩, rfl, Or.inl rfl, fun d vs W K hI hdi hd hK => ?_⟩
      have dd1 := hd 1 (by decide) (by decide +kernel)
      have dd3 := hd 3 (by decide) (by decide +kernel)
      simp only [puts, List.foldl_cons, List.foldl_nil, Act.put, List.setIfInBounds_toArray, List.set_cons_zero, List.set_cons_succ, Nat.reduceAdd, Nat.reduceSub, Nat.reduceEqDiff, ↓reduceIte, reduceCtorEq] at hK ⊢
      go_simp
      refine (DivFloor_tu w2 _ _ z0 z1 q r okb W hI.below.size (hI.c1 dd1).bg (hI.c3 dd3).bg HQ.out).mono ?_
      rintro e W' ⟨⟨v, rfl, hv⟩, hb⟩
      exact hK _ _ ((hI.grow hb).put4 hdi hv)
    · refine ⟨⟨some 18, _, _, _, _, _⟩, rfl, Or.inl rfl, fun d vs W K hI hdi hd hK => ?_⟩
      have dd4 := hd 4 (by decide) (by decide +kernel)
      have T4 := hI.t4 dd4
      clear hd
      simp only [puts, List.foldl_cons, List.foldl_nil, Act.put, List.setIfInBounds_toArray, List.set_cons_zero, List.set_cons_succ, Nat.reduceAdd, Nat.reduceSub, Nat.reduceEqDiff, ↓reduceIte, reduceCtorEq] at hK ⊢
      obtain ⟨vq, vr, e4, f1, f2⟩ := T4
      simp only [e4] at hK ⊢
      go_simp
      exact hK _ _ (hI.put5 hdi ⟨vq, vr, rfl, f1, f2⟩)
    · refine ⟨⟨some 24, _, _, _, _, _⟩, rfl, Or.inl rfl, fun d vs W K hI hdi hd hK => ?_⟩
      have dd5 := hd 5 (by decide) (by decide +kernel)
      have T5 := hI.t5 dd5
      clear hd
      simp only [puts, List.foldl_cons, List.foldl_nil, Act.put, List.setIfInBounds_toArray, List.set_cons_zero, List.set_cons_succ, Nat.reduceAdd, Nat.reduceSub, Nat.reduceEqDiff, ↓reduceIte, reduceCtorEq] at hK ⊢
      obtain ⟨vq, vr, e5, f1, f2⟩ := T5
      simp only [e5] at hK ⊢
      go_simp
      exact hK _ _ (hI.put6 hdi f1)
    · refine ⟨⟨some 25, _, _, _, _, _⟩, rfl, Or.inl rfl, fun d vs W K hI hdi hd hK => ?_⟩
      have dd5 := hd 5 (by decide) (by decide +kernel)
      have T5 := hI.t5 dd5
      clear hd
      simp only [puts, List.foldl_cons, List.foldl_nil, Act.put, List.setIfInBounds_toArray, List.set_cons_zero, List.set_cons_succ, Nat.reduceAdd, Nat.reduceSub, Nat.reduceEqDiff, ↓reduceIte, reduceCtorEq] at hK ⊢
      obtain ⟨vq, vr, e5, f1, f2⟩ := T5
      simp only [e5] at hK ⊢
      go_simp
      exact hK _ _ (hI.put7 hdi f2)
    · refine ⟨⟨some 26, _, _, _, _, _⟩, rfl, Or.inl rfl, fun d vs W K hI hdi hd hK => ?_⟩
      have dd5 := hd 5 (by decide) (by decide +kernel)
      have T5 := hI.t5 dd5
      clear hd
      simp only [puts, List.foldl_cons, List.foldl_nil, Act.put, List.setIfInBounds_toArray, List.set_cons_zero, List.set_cons_succ, Nat.reduceAdd, Nat.reduceSub, Nat.reduceEqDiff, ↓reduceIte, reduceCtorEq] at hK ⊢
      obtain ⟨vq, vr, e5, f1, f2⟩ := T5
      simp only [e5] at hK ⊢
      go_simp
      exact hK _ _ (hI.put8 hdi rfl)
    · refine ⟨⟨some 5, _, _, _, _, _⟩, rfl, Or.inl rfl, fun d vs W K hI hdi hd hK => ?_⟩
      simp only [puts, List.foldl_cons, List.foldl_nil, Act.put, List.setIfInBounds_toArray, List.set_cons_zero, List.set_cons_succ, Nat.reduceAdd, Nat.reduceSub, Nat.reduceEqDiff, ↓reduceIte, reduceCtorEq] at hK ⊢
      go_simp
      exact hK _ _ ((hI.grow ((Below.refl _ _).alloc (Nat.le_refl _) _)).put9 hdi ⟨_, _, _, _, _, rfl, hI.below.size, Blk.new _ _ _, fun e => by cases e⟩ (fun e => (hI.a10 e).lt.symm))
    · refine ⟨⟨some 6, _, _, _, _, _⟩, rfl, Or.inl rfl, fun d vs W K hI hdi hd hK => ?_⟩
      simp only [puts, List.foldl_cons, List.foldl_nil, Act.put, List.setIfInBounds_toArray, List.set_cons_zero, List.set_cons_succ, Nat.reduceAdd, Nat.reduceSub, Nat.reduceEqDiff, ↓reduceIte, reduceCtorEq] at hK ⊢
      go_simp
      exact hK _ _ ((hI.grow ((Below.refl _ _).alloc (Nat.le_refl _) _)).put10 hdi ⟨_, _, _, _, _, rfl, hI.below.size, Blk.new _ _ _, fun e => by cases e⟩ (fun e => (hI.a9 e).lt))
    · refine ⟨⟨none, _, _, _, _, _⟩, rfl, Or.inr ⟨rfl, by first | decide | simp⟩, fun d vs W K hI hdi hd hK => ?_⟩
      have dd9 := hd 9 (by decide) (by decide +kernel)
      have dd6 := hd 6 (by decide) (by decide +kernel)
      have T1 := hI.a9 dd9
      have T2 := (hI.e6 dd6).1
      clear hd
      simp only [puts, List.foldl_cons, List.foldl_nil, Act.put, List.setIfInBounds_toArray, List.set_cons_zero, List.set_cons_succ, Nat.reduceAdd, Nat.reduceSub, Nat.reduceEqDiff, ↓reduceIte, reduceCtorEq] at hK ⊢
      obtain ⟨g, s, A, n, c, e9, hg, hk, _⟩ := T1
      obtain ⟨s', A', n', c', e6⟩ := T2
      simp only [e9, e6] at hK ⊢
      rw [if_pos (show Region.wanted _ _ = true from rfl)]
      refine wp_store_row 24 _ _ rfl g #[.bool s', .slice A' n' c'] rfl rfl 24 _ hk (by kernel_rfl) rfl (by simp [Value.oneCell']) ?_
      exact hK undef _ (hI.sto11 dd9 dd6 e9 hg hk e6)
    · refine ⟨⟨none, _, _, _, _, _⟩, rfl, Or.inr ⟨rfl, by first | decide | simp⟩, fun d vs W K hI hdi hd hK => ?_⟩
      have dd10 := hd 10 (by decide) (by decide +kernel)
      have dd7 := hd 7 (by decide) (by decide +kernel)
      have T1 := hI.a10 dd10
      have T2 := (hI.e7 dd7).1
      clear hd
      simp only [puts, List.foldl_cons, List.foldl_nil, Act.put, List.setIfInBounds_toArray, List.set_cons_zero, List.set_cons_succ, Nat.reduceAdd, Nat.reduceSub, Nat.reduceEqDiff, ↓reduceIte, reduceCtorEq] at hK ⊢
      obtain ⟨g, s, A, n, c, e10, hg, hk, _⟩ := T1
      obtain ⟨s', A', n', c', e7⟩ := T2
      simp only [e10, e7] at hK ⊢
      rw [if_pos (show Region.wanted _ _ = true from rfl)]
      refine wp_store_row 24 _ _ rfl g #[.bool s', .slice A' n' c'] rfl rfl 24 _ hk (by kernel_rfl) rfl (by simp [Value.oneCell']) ?_
      exact hK undef _ (hI.sto12 dd10 dd7 e10 hg hk e7)
  · intro d vs W hd hI
    have hS := hI.below
    simp only [puts, List.foldl_cons, List.foldl_nil, Act.put, List.setIfInBounds_toArray, List.set_cons_zero, List.set_cons_succ, Nat.reduceAdd, Nat.reduceSub, Nat.reduceEqDiff, ↓reduceIte, reduceCtorEq]
    have T5 := hI.a9 (hd 9 (by decide))
    obtain ⟨g5, s5, A5, n5, c5, e5, l5, b5, q5⟩ := T5
    replace q5 := q5 (hd 11 (by decide))
    have V5 := hI.e6 (hd 6 (by decide))
    rw [q5] at V5
    replace V5 := Lib.hid V5
    have K5 := Lib.hid b5
    clear b5 l5
    have T6 := hI.a10 (hd 10 (by decide))
    obtain ⟨g6, s6, A6, n6, c6, e6, l6, b6, q6⟩ := T6
    replace q6 := q6 (hd 12 (by decide))
    have V6 := hI.e7 (hd 7 (by decide))
    rw [q6] at V6
    replace V6 := Lib.hid V6
    have K6 := Lib.hid b6
    clear b6 l6
    have d8 := hI.e8 (hd 8 (by decide))
    simp only [e5, e6, q5, q6, d8]
    clear d8 e5 e6 q5 q6 hd hI hS0
    simp only [List.drop_succ_cons, List.drop_zero]
    replace K2 := Lib.hid (K2.out.below hS)
    replace K3 := Lib.hid (K3.out.below hS)
    replace HE := Lib.hid (HE.out.below hS)
    replace B0 := Lib.hid (B0.out.below hS)
    replace B1 := Lib.hid (B1.out.below hS)
    replace HB := Lib.hid (HB.out.trans (hS.mono HB.out.size))
    clear hS
    rcases HQ.out with ⟨rfl, hz, hqr⟩ | ⟨rfl, hz⟩
    · clear HQ
      have HZ1 := Lib.hid hz
      have HQR := Lib.hid hqr
      clear hz hqr
      replace V5 := Lib.hid (V5.out.2.1 rfl)
      replace V6 := Lib.hid (V6.out.2.1 rfl)
      go_upto_region 6 with fail
      have k2_0 : W.cell? ⟨w.heap.size, 0, none⟩ = some (.bool x0) := K2.out.cell 0
      have k2_1 : W.cell? ⟨w.heap.size, 1, none⟩ = some (.slice A0 n0 c0) := K2.out.cell 1
      have k3_0 : W.cell? ⟨w.heap.size + 1, 0, none⟩ = some (.bool x1) := K3.out.cell 0
      have k3_1 : W.cell? ⟨w.heap.size + 1, 1, none⟩ = some (.slice A1 n1 c1) := K3.out.cell 1
      have k5_0 : W.cell? ⟨g5, 0, none⟩ = some (.bool s5) := K5.out.cell 0
      have k5_1 : W.cell? ⟨g5, 1, none⟩ = some (.slice A5 n5 c5) := K5.out.cell 1
      have k6_0 : W.cell? ⟨g6, 0, none⟩ = some (.bool s6) := K6.out.cell 0
      have k6_1 : W.cell? ⟨g6, 1, none⟩ = some (.slice A6 n6 c6) := K6.out.cell 1
      have hS0 : Below W.heap.size W W.drew := below_drew (Below.refl _ _)
      refine wp_region_mix 12 (fun w' => Below W.heap.size W w') (by kernel_rfl) (by decide) ?_
      generalize W.drew = y0 at hS0 ⊢
      refine wpM_take (i := 0) (oi := ⟨some 33, _, _, _, _, _⟩) (v := ?_) rfl (by decide +kernel) (by decide +kernel) (by decide +kernel) (fun _ _ _ h => h) (Or.inl ⟨by rfl, ?_⟩) hS0 ?_
      case refine_2 =>
        intro w' hSw
        have k5_0' := keepcell hSw k5_0
        have k5_1' := keepcell hSw k5_1
        go_simp
        try (with_reducible rfl)
      try simp only [Act.put, List.setIfInBounds_toArray, List.set_cons_zero, List.set_cons_succ]
      refine wpM_take (i := 2) (oi := ⟨some 35, _, _, _, _, _⟩) (v := ?_) rfl (by decide +kernel) (by decide +kernel) (by decide +kernel) (fun _ _ _ h => h) (Or.inl ⟨by rfl, ?_⟩) hS0 ?_
      case refine_2 =>
        intro w' hSw
        have k3_0' := keepcell hSw k3_0
        have k3_1' := keepcell hSw k3_1
        go_simp
        try (with_reducible rfl)
      try simp only [Act.put, List.setIfInBounds_toArray, List.set_cons_zero, List.set_cons_succ]
      refine wpM_take (i := 5) (oi := ⟨some 38, _, _, _, _, _⟩) (v := ?_) rfl (by decide +kernel) (by decide +kernel) (by decide +kernel) (fun _ _ _ h => h) (Or.inl ⟨by rfl, ?_⟩) hS0 ?_
      case refine_2 =>
        intro w' hSw
        have k6_0' := keepcell hSw k6_0
        have k6_1' := keepcell hSw k6_1
        go_simp
        try (with_reducible rfl)
      try simp only [Act.put, List.setIfInBounds_toArray, List.set_cons_zero, List.set_cons_succ]
      refine wpM_take (i := 8) (oi := ⟨some 41, _, _, _, _, _⟩) (v := ?_) rfl (by decide +kernel) (by decide +kernel) (by decide +kernel) (fun _ _ _ h => h) (Or.inl ⟨by rfl, ?_⟩) hS0 ?_
      case refine_2 =>
        intro w' hSw
        have k2_0' := keepcell hSw k2_0
        have k2_1' := keepcell hSw k2_1
        go_simp
        try (with_reducible rfl)
      try simp only [Act.put, List.setIfInBounds_toArray, List.set_cons_zero, List.set_cons_succ]
      refine wpM_step (i := 1) (o := ⟨some 34, _, _, _, _, _⟩) rfl (by decide +kernel) (by decide) (fun K hK => ?_)
      go_simp
      refine (cp_bg y0 _ q 11 ((V5.out.below hS0).bg) (by decide)).mono ?_
      rintro e y3 ⟨v34, rfl, hv, hc⟩
      have hy3 : Below W.heap.size W y3 := hS0.trans (hc.mono hS0.size)
      have P34 := Lib.hid hv
      clear hv
      refine hK.out _ _ hy3 ?_
      clear hK K
      try simp only [Act.put, List.setIfInBounds_toArray, List.set_cons_zero, List.set_cons_succ]
      refine wpM_step (i := 3) (o := ⟨some 36, _, _, _, _, _⟩) rfl (by decide +kernel) (by decide) (fun K hK => ?_)
      go_simp
      refine (cp_bg y3 _ z1 8 (B1.out.below hy3) (by decide)).mono ?_
      rintro e y4 ⟨v36, rfl, hv, hc⟩
      have hy4 : Below W.heap.size W y4 := hy3.trans (hc.mono hy3.size)
      replace P34 := Lib.hid (P34.out.below hc)
      have P36 := Lib.hid hv
      clear hv
      refine hK.out _ _ hy4 ?_
      clear hK K
      try simp only [Act.put, List.setIfInBounds_toArray, List.set_cons_zero, List.set_cons_succ]
      refine wpM_step (i := 4) (o := ⟨some 37, _, _, _, _, _⟩) rfl (by decide +kernel) (by decide) (fun K hK => ?_)
      go_simp
      refine (Mul_any _ _ q z1 11 8 y4 P34.out.bg P36.out.bg (by decide) (by decide)).mono ?_
      rintro e y5 ⟨v37, rfl, hv, hc⟩
      have hy5 : Below W.heap.size W y5 := hy4.trans (hc.mono hy4.size)
      replace P34 := Lib.hid (P34.out.below hc)
      replace P36 := Lib.hid (P36.out.below hc)
      have P37 := Lib.hid hv
      clear hv
      refine hK.out _ _ hy5 ?_
      clear hK K
      try simp only [Act.put, List.setIfInBounds_toArray, List.set_cons_zero, List.set_cons_succ]
      refine wpM_step (i := 6) (o := ⟨some 39, _, _, _, _, _⟩) rfl (by decide +kernel) (by decide) (fun K hK => ?_)
      go_simp
      refine (cp_bg y5 _ r 11 ((V6.out.below hy5).bg) (by decide)).mono ?_
      rintro e y6 ⟨v39, rfl, hv, hc⟩
      have hy6 : Below W.heap.size W y6 := hy5.trans (hc.mono hy5.size)
      replace P34 := Lib.hid (P34.out.below hc)
      replace P36 := Lib.hid (P36.out.below hc)
      replace P37 := Lib.hid (P37.out.below hc)
      have P39 := Lib.hid hv
      clear hv
      refine hK.out _ _ hy6 ?_
      clear hK K
      try simp only [Act.put, List.setIfInBounds_toArray, List.set_cons_zero, List.set_cons_succ]
      refine wpM_step (i := 7) (o := ⟨some 40, _, _, _, _, _⟩) rfl (by decide +kernel) (by decide) (fun K hK => ?_)
      go_simp
      refine (Add_any _ _ (q * z1) r 19 11 y6 P37.out.bg P39.out.bg (by decide) (by decide)).mono ?_
      rintro e y7 ⟨v40, rfl, hv, hc⟩
      have hy7 : Below W.heap.size W y7 := hy6.trans (hc.mono hy6.size)
      replace P34 := Lib.hid (P34.out.below hc)
      replace P36 := Lib.hid (P36.out.below hc)
      replace P37 := Lib.hid (P37.out.below hc)
      replace P39 := Lib.hid (P39.out.below hc)
      have P40 := Lib.hid hv
      clear hv
      refine hK.out _ _ hy7 ?_
      clear hK K
      try simp only [Act.put, List.setIfInBounds_toArray, List.set_cons_zero, List.set_cons_succ]
      refine wpM_step (i := 9) (o := ⟨some 42, _, _, _, _, _⟩) rfl (by decide +kernel) (by decide) (fun K hK => ?_)
      go_simp
      refine (cp_bg y7 _ z0 8 (B0.out.below hy7) (by decide)).mono ?_
      rintro e y8 ⟨v42, rfl, hv, hc⟩
      have hy8 : Below W.heap.size W y8 := hy7.trans (hc.mono hy7.size)
      replace P34 := Lib.hid (P34.out.below hc)
      replace P36 := Lib.hid (P36.out.below hc)
      replace P37 := Lib.hid (P37.out.below hc)
      replace P39 := Lib.hid (P39.out.below hc)
      replace P40 := Lib.hid (P40.out.below hc)
      have P42 := Lib.hid hv
      clear hv
      refine hK.out _ _ hy8 ?_
      clear hK K
      try simp only [Act.put, List.setIfInBounds_toArray, List.set_cons_zero, List.set_cons_succ]
      refine wpM_step (i := 10) (o := ⟨some 43, _, _, _, _, _⟩) rfl (by decide +kernel) (by decide) (fun K hK => ?_)
      go_simp
      refine (Normal_any _ z0 8 y8 P42.out.bg (by decide)).mono ?_
      rintro e y9 ⟨v43, rfl, hv, hc⟩
      have hy9 : Below W.heap.size W y9 := hy8.trans (hc.mono hy8.size)
      replace P34 := Lib.hid (P34.out.below hc)
      replace P36 := Lib.hid (P36.out.below hc)
      replace P37 := Lib.hid (P37.out.below hc)
      replace P39 := Lib.hid (P39.out.below hc)
      replace P40 := Lib.hid (P40.out.below hc)
      replace P42 := Lib.hid (P42.out.below hc)
      have P43 := Lib.hid hv
      clear hv
      refine hK.out _ _ hy9 ?_
      clear hK K
      try simp only [Act.put, List.setIfInBounds_toArray, List.set_cons_zero, List.set_cons_succ]
      refine wpM_step (i := 11) (o := ⟨some 44, _, _, _, _, _⟩) rfl (by decide +kernel) (by decide) (fun K hK => ?_)
      go_simp
      refine (Same_nb (show NB _ _ _ z0 _ from HQR.out.1 ▸ P40.out) P43.out (by decide)).mono ?_
      rintro e y10 ⟨rfl, hc⟩
      have hy10 : Below W.heap.size W y10 := hy9.trans (hc.mono hy9.size)
      replace P34 := Lib.hid (P34.out.below hc)
      replace P36 := Lib.hid (P36.out.below hc)
      replace P37 := Lib.hid (P37.out.below hc)
      replace P39 := Lib.hid (P39.out.below hc)
      replace P40 := Lib.hid (P40.out.below hc)
      replace P42 := Lib.hid (P42.out.below hc)
      replace P43 := Lib.hid (P43.out.below hc)
      refine hK.out _ _ hy10 ?_
      clear hK K
      try simp only [Act.put, List.setIfInBounds_toArray, List.set_cons_zero, List.set_cons_succ]
      refine wpM_done (by decide +kernel) ?_
      simp only [List.drop_succ_cons, List.drop_zero]
      clear k2_0 k2_1 k3_0 k3_1 k5_0 k5_1 k6_0 k6_1
      have hb := hy10
      replace K2 := Lib.hid (K2.out.below hb)
      replace K3 := Lib.hid (K3.out.below hb)
      replace HE := Lib.hid (HE.out.below hb)
      replace B0 := Lib.hid (B0.out.below hb)
      replace B1 := Lib.hid (B1.out.below hb)
      replace K5 := Lib.hid (K5.out.below hb)
      replace V5 := Lib.hid (V5.out.below hb)
      replace K6 := Lib.hid (K6.out.below hb)
      replace V6 := Lib.hid (V6.out.below hb)
      replace HB := Lib.hid (HB.out.trans (hb.mono HB.out.size))
      clear hb
      clear P34 P36 P37 P39 P40 P42 P43
      rcases Int.lt_or_lt_of_ne HZ1.out with hs | hs
      · have HZS := Lib.hid (show z1.sign = -1 from Int.sign_eq_neg_one_of_neg hs)
        have k3_0 : y10.cell? ⟨w.heap.size + 1, 0, none⟩ = some (.bool x1) := K3.out.cell 0
        have k3_1 : y10.cell? ⟨w.heap.size + 1, 1, none⟩ = some (.slice A1 n1 c1) := K3.out.cell 1
        go_wp2_with fail
        refine (cp_bg y10 _ z1 8 B1.out (by decide)).mono ?_
        rintro e w11 ⟨v1, rfl, hv, hb⟩
        have P1 := Lib.hid hv
        clear hv
        clear k3_0 k3_1
        replace K2 := Lib.hid (K2.out.below hb)
        replace K3 := Lib.hid (K3.out.below hb)
        replace HE := Lib.hid (HE.out.below hb)
        replace B0 := Lib.hid (B0.out.below hb)
        replace B1 := Lib.hid (B1.out.below hb)
        replace K5 := Lib.hid (K5.out.below hb)
        replace V5 := Lib.hid (V5.out.below hb)
        replace K6 := Lib.hid (K6.out.below hb)
        replace V6 := Lib.hid (V6.out.below hb)
        replace HB := Lib.hid (HB.out.trans (hb.mono HB.out.size))
        clear hb
        have CI := Lib.hid (Sign_any _ z1 8 w11 P1.out.bg)
        rw [HZS.out] at CI
        go_wp2_with fail
        refine (CI.out).mono ?_
        rintro e w12 ⟨rfl, hb⟩
        replace K2 := Lib.hid (K2.out.below hb)
        replace K3 := Lib.hid (K3.out.below hb)
        replace HE := Lib.hid (HE.out.below hb)
        replace B0 := Lib.hid (B0.out.below hb)
        replace B1 := Lib.hid (B1.out.below hb)
        replace K5 := Lib.hid (K5.out.below hb)
        replace V5 := Lib.hid (V5.out.below hb)
        replace K6 := Lib.hid (K6.out.below hb)
        replace V6 := Lib.hid (V6.out.below hb)
        replace HB := Lib.hid (HB.out.trans (hb.mono HB.out.size))
        clear hb
        clear CI P1
        have hrb : z1 < r ∧ r ≤ 0 := by
          rcases HQR.out.2 with h | h
          · first | exact h | omega
          · first | exact h | omega
        have hcm : cmpZ r z1 = 1 := cmpZ_pos hrb.1
        obtain ⟨sr, hsr⟩ : ∃ x, r.sign = x := ⟨_, rfl⟩
        have hs0 : sr ≤ (0 : Int) := by
          rw [← hsr]
          rcases Int.lt_or_eq_of_le hrb.2 with h | h
          · rw [Int.sign_eq_neg_one_of_neg h]; decide
          · rw [h]; decide
        have HCM := Lib.hid hcm
        have HSR := Lib.hid hsr
        clear hrb hcm hsr
        go_upto_region 10 with fail
        have k3_0 : w12.cell? ⟨w.heap.size + 1, 0, none⟩ = some (.bool x1) := K3.out.cell 0
        have k3_1 : w12.cell? ⟨w.heap.size + 1, 1, none⟩ = some (.slice A1 n1 c1) := K3.out.cell 1
        have k6_0 : w12.cell? ⟨g6, 0, none⟩ = some (.bool s6) := K6.out.cell 0
        have k6_1 : w12.cell? ⟨g6, 1, none⟩ = some (.slice A6 n6 c6) := K6.out.cell 1
        have hS0 : Below w12.heap.size w12 w12.drew := below_drew (Below.refl _ _)
        refine wp_region_mix 12 (fun w' => Below w12.heap.size w12 w') (by kernel_rfl) (by decide) ?_
        generalize w12.drew = y0 at hS0 ⊢
        refine wpM_take (i := 0) (oi := ⟨some 62, _, _, _, _, _⟩) (v := ?_) rfl (by decide +kernel) (by decide +kernel) (by decide +kernel) (fun _ _ _ h => h) (Or.inl ⟨by rfl, ?_⟩) hS0 ?_
        case refine_2 =>
          intro w' hSw
          have k6_0' := keepcell hSw k6_0
          have k6_1' := keepcell hSw k6_1
          go_simp
          try (with_reducible rfl)
        try simp only [Act.put, List.setIfInBounds_toArray, List.set_cons_zero, List.set_cons_succ]
        refine wpM_step (i := 1) (o := ⟨some 63, _, _, _, _, _⟩) rfl (by decide +kernel) (by decide) (fun K hK => ?_)
        go_simp
        refine (cp_bg y0 _ r 11 ((V6.out.below hS0).bg) (by decide)).mono ?_
        rintro e y13 ⟨v63, rfl, hv, hc⟩
        have hy13 : Below w12.heap.size w12 y13 := hS0.trans (hc.mono hS0.size)
        have P63 := Lib.hid hv
        clear hv
        refine hK.out _ _ hy13 ?_
        clear hK K
        try simp only [Act.put, List.setIfInBounds_toArray, List.set_cons_zero, List.set_cons_succ]
        refine wpM_step (i := 2) (o := ⟨some 64, _, _, _, _, _⟩) rfl (by decide +kernel) (by decide) (fun K hK => ?_)
        go_simp
        refine (Sign_any _ r 11 y13 P63.out.bg).mono ?_
        rintro e y14 ⟨rfl, hc⟩
        have hy14 : Below w12.heap.size w12 y14 := hy13.trans (hc.mono hy13.size)
        replace P63 := Lib.hid (P63.out.below hc)
        rw [HSR.out]
        refine hK.out _ _ hy14 ?_
        clear hK K
        try simp only [Act.put, List.setIfInBounds_toArray, List.set_cons_zero, List.set_cons_succ]
        refine wpM_take (i := 3) (oi := ⟨some 65, _, _, _, _, _⟩) (v := ?_) rfl (by decide +kernel) (by decide +kernel) (by decide +kernel) (fun _ _ _ h => h) (Or.inl ⟨by rfl, ?_⟩) hy14 ?_
        case refine_2 =>
          intro w' hSw
          go_simp
          try (with_reducible rfl)
        try simp only [Act.put, List.setIfInBounds_toArray, List.set_cons_zero, List.set_cons_succ]
        refine wpM_take (i := 4) (oi := ⟨some 66, _, _, _, _, _⟩) (v := ?_) rfl (by decide +kernel) (by decide +kernel) (by decide +kernel) (fun _ _ _ h => h) (Or.inl ⟨by rfl, ?_⟩) hy14 ?_
        case refine_2 =>
          intro w' hSw
          go_simp
          try (with_reducible rfl)
        try simp only [Act.put, List.setIfInBounds_toArray, List.set_cons_zero, List.set_cons_succ]
        refine wpM_take (i := 5) (oi := ⟨some 67, _, _, _, _, _⟩) (v := ?_) rfl (by decide +kernel) (by decide +kernel) (by decide +kernel) (fun _ _ _ h => h) (Or.inl ⟨by rfl, ?_⟩) hy14 ?_
        case refine_2 =>
          intro w' hSw
          have k6_0' := keepcell hSw k6_0
          have k6_1' := keepcell hSw k6_1
          go_simp
          try (with_reducible rfl)
        try simp only [Act.put, List.setIfInBounds_toArray, List.set_cons_zero, List.set_cons_succ]
        refine wpM_take (i := 7) (oi := ⟨some 69, _, _, _, _, _⟩) (v := ?_) rfl (by decide +kernel) (by decide +kernel) (by decide +kernel) (fun _ _ _ h => h) (Or.inl ⟨by rfl, ?_⟩) hy14 ?_
        case refine_2 =>
          intro w' hSw
          have k3_0' := keepcell hSw k3_0
          have k3_1' := keepcell hSw k3_1
          go_simp
          try (with_reducible rfl)
        try simp only [Act.put, List.setIfInBounds_toArray, List.set_cons_zero, List.set_cons_succ]
        refine wpM_step (i := 6) (o := ⟨some 68, _, _, _, _, _⟩) rfl (by decide +kernel) (by decide) (fun K hK => ?_)
        go_simp
        refine (cp_bg y14 _ r 11 ((V6.out.below hy14).bg) (by decide)).mono ?_
        rintro e y15 ⟨v68, rfl, hv, hc⟩
        have hy15 : Below w12.heap.size w12 y15 := hy14.trans (hc.mono hy14.size)
        replace P63 := Lib.hid (P63.out.below hc)
        have P68 := Lib.hid hv
        clear hv
        refine hK.out _ _ hy15 ?_
        clear hK K
        try simp only [Act.put, List.setIfInBounds_toArray, List.set_cons_zero, List.set_cons_succ]
        refine wpM_step (i := 8) (o := ⟨some 70, _, _, _, _, _⟩) rfl (by decide +kernel) (by decide) (fun K hK => ?_)
        go_simp
        refine (cp_bg y15 _ z1 8 (B1.out.below hy15) (by decide)).mono ?_
        rintro e y16 ⟨v70, rfl, hv, hc⟩
        have hy16 : Below w12.heap.size w12 y16 := hy15.trans (hc.mono hy15.size)
        replace P63 := Lib.hid (P63.out.below hc)
        replace P68 := Lib.hid (P68.out.below hc)
        have P70 := Lib.hid hv
        clear hv
        refine hK.out _ _ hy16 ?_
        clear hK K
        try simp only [Act.put, List.setIfInBounds_toArray, List.set_cons_zero, List.set_cons_succ]
        refine wpM_step (i := 9) (o := ⟨some 71, _, _, _, _, _⟩) rfl (by decide +kernel) (by decide) (fun K hK => ?_)
        go_simp
        refine (Compare_any _ _ r z1 11 y16 P68.out.bg (P70.out.bg.wide (by decide)) (by decide)).mono ?_
        rintro e y17 ⟨rfl, hc⟩
        have hy17 : Below w12.heap.size w12 y17 := hy16.trans (hc.mono hy16.size)
        replace P63 := Lib.hid (P63.out.below hc)
        replace P68 := Lib.hid (P68.out.below hc)
        replace P70 := Lib.hid (P70.out.below hc)
        rw [HCM.out]
        refine hK.out _ _ hy17 ?_
        clear hK K
        try simp only [Act.put, List.setIfInBounds_toArray, List.set_cons_zero, List.set_cons_succ]
        refine wpM_take (i := 10) (oi := ⟨some 72, _, _, _, _, _⟩) (v := ?_) rfl (by decide +kernel) (by decide +kernel) (by decide +kernel) (fun _ _ _ h => h) (Or.inl ⟨by rfl, ?_⟩) hy17 ?_
        case refine_2 =>
          intro w' hSw
          go_simp
          try (with_reducible rfl)
        try simp only [Act.put, List.setIfInBounds_toArray, List.set_cons_zero, List.set_cons_succ]
        refine wpM_take (i := 11) (oi := ⟨some 73, _, _, _, _, _⟩) (v := ?_) rfl (by decide +kernel) (by decide +kernel) (by decide +kernel) (fun _ _ _ h => h) (Or.inl ⟨by rfl, ?_⟩) hy17 ?_
        case refine_2 =>
          intro w' hSw
          go_simp
          try (with_reducible rfl)
        try simp only [Act.put, List.setIfInBounds_toArray, List.set_cons_zero, List.set_cons_succ]
        refine wpM_done (by decide +kernel) ?_
        simp only [List.drop_succ_cons, List.drop_zero]
        clear k3_0 k3_1 k6_0 k6_1
        have hb := hy17
        replace K2 := Lib.hid (K2.out.below hb)
        replace K3 := Lib.hid (K3.out.below hb)
        replace HE := Lib.hid (HE.out.below hb)
        replace B0 := Lib.hid (B0.out.below hb)
        replace B1 := Lib.hid (B1.out.below hb)
        replace K5 := Lib.hid (K5.out.below hb)
        replace V5 := Lib.hid (V5.out.below hb)
        replace K6 := Lib.hid (K6.out.below hb)
        replace V6 := Lib.hid (V6.out.below hb)
        replace HB := Lib.hid (HB.out.trans (hb.mono HB.out.size))
        clear hb
        go_wp2
        go_ret
        exact ⟨rfl, HB.out⟩
      · have HZS := Lib.hid (show z1.sign = 1 from Int.sign_eq_one_of_pos hs)
        have k3_0 : y10.cell? ⟨w.heap.size + 1, 0, none⟩ = some (.bool x1) := K3.out.cell 0
        have k3_1 : y10.cell? ⟨w.heap.size + 1, 1, none⟩ = some (.slice A1 n1 c1) := K3.out.cell 1
        go_wp2_with fail
        refine (cp_bg y10 _ z1 8 B1.out (by decide)).mono ?_
        rintro e w11 ⟨v1, rfl, hv, hb⟩
        have P1 := Lib.hid hv
        clear hv
        clear k3_0 k3_1
        replace K2 := Lib.hid (K2.out.below hb)
        replace K3 := Lib.hid (K3.out.below hb)
        replace HE := Lib.hid (HE.out.below hb)
        replace B0 := Lib.hid (B0.out.below hb)
        replace B1 := Lib.hid (B1.out.below hb)
        replace K5 := Lib.hid (K5.out.below hb)
        replace V5 := Lib.hid (V5.out.below hb)
        replace K6 := Lib.hid (K6.out.below hb)
        replace V6 := Lib.hid (V6.out.below hb)
        replace HB := Lib.hid (HB.out.trans (hb.mono HB.out.size))
        clear hb
        have CI := Lib.hid (Sign_any _ z1 8 w11 P1.out.bg)
        rw [HZS.out] at CI
        go_wp2_with fail
        refine (CI.out).mono ?_
        rintro e w12 ⟨rfl, hb⟩
        replace K2 := Lib.hid (K2.out.below hb)
        replace K3 := Lib.hid (K3.out.below hb)
        replace HE := Lib.hid (HE.out.below hb)
        replace B0 := Lib.hid (B0.out.below hb)
        replace B1 := Lib.hid (B1.out.below hb)
        replace K5 := Lib.hid (K5.out.below hb)
        replace V5 := Lib.hid (V5.out.below hb)
        replace K6 := Lib.hid (K6.out.below hb)
        replace V6 := Lib.hid (V6.out.below hb)
        replace HB := Lib.hid (HB.out.trans (hb.mono HB.out.size))
        clear hb
        clear CI P1
        have hrb : 0 ≤ r ∧ r < z1 := by
          rcases HQR.out.2 with h | h
          · first | exact h | omega
          · first | exact h | omega
        have hcm : cmpZ r z1 = -1 := cmpZ_neg hrb.2
        obtain ⟨sr, hsr⟩ : ∃ x, r.sign = x := ⟨_, rfl⟩
        have hs0 : (0 : Int) ≤ sr := by
          rw [← hsr]
          rcases Int.lt_or_eq_of_le hrb.1 with h | h
          · rw [Int.sign_eq_one_of_pos h]; decide
          · rw [← h]; decide
        have hs1 : sr ≥ 0 := hs0
        have HCM := Lib.hid hcm
        have HSR := Lib.hid hsr
        clear hrb hcm hsr
        go_upto_region 9 with fail
        have k3_0 : w12.cell? ⟨w.heap.size + 1, 0, none⟩ = some (.bool x1) := K3.out.cell 0
        have k3_1 : w12.cell? ⟨w.heap.size + 1, 1, none⟩ = some (.slice A1 n1 c1) := K3.out.cell 1
        have k6_0 : w12.cell? ⟨g6, 0, none⟩ = some (.bool s6) := K6.out.cell 0
        have k6_1 : w12.cell? ⟨g6, 1, none⟩ = some (.slice A6 n6 c6) := K6.out.cell 1
        have hS0 : Below w12.heap.size w12 w12.drew := below_drew (Below.refl _ _)
        refine wp_region_mix 12 (fun w' => Below w12.heap.size w12 w') (by kernel_rfl) (by decide) ?_
        generalize w12.drew = y0 at hS0 ⊢
        refine wpM_take (i := 0) (oi := ⟨some 50, _, _, _, _, _⟩) (v := ?_) rfl (by decide +kernel) (by decide +kernel) (by decide +kernel) (fun _ _ _ h => h) (Or.inl ⟨by rfl, ?_⟩) hS0 ?_
        case refine_2 =>
          intro w' hSw
          have k6_0' := keepcell hSw k6_0
          have k6_1' := keepcell hSw k6_1
          go_simp
          try (with_reducible rfl)
        try simp only [Act.put, List.setIfInBounds_toArray, List.set_cons_zero, List.set_cons_succ]
        refine wpM_step (i := 1) (o := ⟨some 51, _, _, _, _, _⟩) rfl (by decide +kernel) (by decide) (fun K hK => ?_)
        go_simp
        refine (cp_bg y0 _ r 11 ((V6.out.below hS0).bg) (by decide)).mono ?_
        rintro e y13 ⟨v51, rfl, hv, hc⟩
        have hy13 : Below w12.heap.size w12 y13 := hS0.trans (hc.mono hS0.size)
        have P51 := Lib.hid hv
        clear hv
        refine hK.out _ _ hy13 ?_
        clear hK K
        try simp only [Act.put, List.setIfInBounds_toArray, List.set_cons_zero, List.set_cons_succ]
        refine wpM_step (i := 2) (o := ⟨some 52, _, _, _, _, _⟩) rfl (by decide +kernel) (by decide) (fun K hK => ?_)
        go_simp
        refine (Sign_any _ r 11 y13 P51.out.bg).mono ?_
        rintro e y14 ⟨rfl, hc⟩
        have hy14 : Below w12.heap.size w12 y14 := hy13.trans (hc.mono hy13.size)
        replace P51 := Lib.hid (P51.out.below hc)
        rw [HSR.out]
        refine hK.out _ _ hy14 ?_
        clear hK K
        try simp only [Act.put, List.setIfInBounds_toArray, List.set_cons_zero, List.set_cons_succ]
        refine wpM_take (i := 3) (oi := ⟨some 53, _, _, _, _, _⟩) (v := ?_) rfl (by decide +kernel) (by decide +kernel) (by decide +kernel) (fun _ _ _ h => h) (Or.inl ⟨by rfl, ?_⟩) hy14 ?_
        case refine_2 =>
          intro w' hSw
          go_simp
          try (with_reducible rfl)
        try simp only [Act.put, List.setIfInBounds_toArray, List.set_cons_zero, List.set_cons_succ]
        refine wpM_take (i := 4) (oi := ⟨some 54, _, _, _, _, _⟩) (v := ?_) rfl (by decide +kernel) (by decide +kernel) (by decide +kernel) (fun _ _ _ h => h) (Or.inl ⟨by rfl, ?_⟩) hy14 ?_
        case refine_2 =>
          intro w' hSw
          go_simp
          try (with_reducible rfl)
        try simp only [Act.put, List.setIfInBounds_toArray, List.set_cons_zero, List.set_cons_succ]
        refine wpM_take (i := 5) (oi := ⟨some 55, _, _, _, _, _⟩) (v := ?_) rfl (by decide +kernel) (by decide +kernel) (by decide +kernel) (fun _ _ _ h => h) (Or.inl ⟨by rfl, ?_⟩) hy14 ?_
        case refine_2 =>
          intro w' hSw
          have k6_0' := keepcell hSw k6_0
          have k6_1' := keepcell hSw k6_1
          go_simp
          try (with_reducible rfl)
        try simp only [Act.put, List.setIfInBounds_toArray, List.set_cons_zero, List.set_cons_succ]
        refine wpM_take (i := 7) (oi := ⟨some 57, _, _, _, _, _⟩) (v := ?_) rfl (by decide +kernel) (by decide +kernel) (by decide +kernel) (fun _ _ _ h => h) (Or.inl ⟨by rfl, ?_⟩) hy14 ?_
        case refine_2 =>
          intro w' hSw
          have k3_0' := keepcell hSw k3_0
          have k3_1' := keepcell hSw k3_1
          go_simp
          try (with_reducible rfl)
        try simp only [Act.put, List.setIfInBounds_toArray, List.set_cons_zero, List.set_cons_succ]
        refine wpM_step (i := 6) (o := ⟨some 56, _, _, _, _, _⟩) rfl (by decide +kernel) (by decide) (fun K hK => ?_)
        go_simp
        refine (cp_bg y14 _ r 11 ((V6.out.below hy14).bg) (by decide)).mono ?_
        rintro e y15 ⟨v56, rfl, hv, hc⟩
        have hy15 : Below w12.heap.size w12 y15 := hy14.trans (hc.mono hy14.size)
        replace P51 := Lib.hid (P51.out.below hc)
        have P56 := Lib.hid hv
        clear hv
        refine hK.out _ _ hy15 ?_
        clear hK K
        try simp only [Act.put, List.setIfInBounds_toArray, List.set_cons_zero, List.set_cons_succ]
        refine wpM_step (i := 8) (o := ⟨some 58, _, _, _, _, _⟩) rfl (by decide +kernel) (by decide) (fun K hK => ?_)
        go_simp
        refine (cp_bg y15 _ z1 8 (B1.out.below hy15) (by decide)).mono ?_
        rintro e y16 ⟨v58, rfl, hv, hc⟩
        have hy16 : Below w12.heap.size w12 y16 := hy15.trans (hc.mono hy15.size)
        replace P51 := Lib.hid (P51.out.below hc)
        replace P56 := Lib.hid (P56.out.below hc)
        have P58 := Lib.hid hv
        clear hv
        refine hK.out _ _ hy16 ?_
        clear hK K
        try simp only [Act.put, List.setIfInBounds_toArray, List.set_cons_zero, List.set_cons_succ]
        refine wpM_step (i := 9) (o := ⟨some 59, _, _, _, _, _⟩) rfl (by decide +kernel) (by decide) (fun K hK => ?_)
        go_simp
        refine (Compare_any _ _ r z1 11 y16 P56.out.bg (P58.out.bg.wide (by decide)) (by decide)).mono ?_
        rintro e y17 ⟨rfl, hc⟩
        have hy17 : Below w12.heap.size w12 y17 := hy16.trans (hc.mono hy16.size)
        replace P51 := Lib.hid (P51.out.below hc)
        replace P56 := Lib.hid (P56.out.below hc)
        replace P58 := Lib.hid (P58.out.below hc)
        rw [HCM.out]
        refine hK.out _ _ hy17 ?_
        clear hK K
        try simp only [Act.put, List.setIfInBounds_toArray, List.set_cons_zero, List.set_cons_succ]
        refine wpM_take (i := 10) (oi := ⟨some 60, _, _, _, _, _⟩) (v := ?_) rfl (by decide +kernel) (by decide +kernel) (by decide +kernel) (fun _ _ _ h => h) (Or.inl ⟨by rfl, ?_⟩) hy17 ?_
        case refine_2 =>
          intro w' hSw
          go_simp
          try (with_reducible rfl)
        try simp only [Act.put, List.setIfInBounds_toArray, List.set_cons_zero, List.set_cons_succ]
        refine wpM_take (i := 11) (oi := ⟨some 61, _, _, _, _, _⟩) (v := ?_) rfl (by decide +kernel) (by decide +kernel) (by decide +kernel) (fun _ _ _ h => h) (Or.inl ⟨by rfl, ?_⟩) hy17 ?_
        case refine_2 =>
          intro w' hSw
          go_simp
          try (with_reducible rfl)
        try simp only [Act.put, List.setIfInBounds_toArray, List.set_cons_zero, List.set_cons_succ]
        refine wpM_done (by decide +kernel) ?_
        simp only [List.drop_succ_cons, List.drop_zero]
        clear k3_0 k3_1 k6_0 k6_1
        have hb := hy17
        replace K2 := Lib.hid (K2.out.below hb)
        replace K3 := Lib.hid (K3.out.below hb)
        replace HE := Lib.hid (HE.out.below hb)
        replace B0 := Lib.hid (B0.out.below hb)
        replace B1 := Lib.hid (B1.out.below hb)
        replace K5 := Lib.hid (K5.out.below hb)
        replace V5 := Lib.hid (V5.out.below hb)
        replace K6 := Lib.hid (K6.out.below hb)
        replace V6 := Lib.hid (V6.out.below hb)
        replace HB := Lib.hid (HB.out.trans (hb.mono HB.out.size))
        clear hb
        go_wp2
        go_ret
        exact ⟨rfl, HB.out⟩
    · clear HQ
      have HZ1 := Lib.hid hz
      clear hz
      have k3_0 : W.cell? ⟨w.heap.size + 1, 0, none⟩ = some (.bool x1) := K3.out.cell 0
      have k3_1 : W.cell? ⟨w.heap.size + 1, 1, none⟩ = some (.slice A1 n1 c1) := K3.out.cell 1
      go_wp2_with fail
      refine (cp_bg W _ z1 8 B1.out (by decide)).mono ?_
      rintro e w3 ⟨v1, rfl, hv, hb⟩
      have P1 := Lib.hid hv
      clear hv
      clear k3_0 k3_1
      replace K2 := Lib.hid (K2.out.below hb)
      replace K3 := Lib.hid (K3.out.below hb)
      replace HE := Lib.hid (HE.out.below hb)
      replace B0 := Lib.hid (B0.out.below hb)
      replace B1 := Lib.hid (B1.out.below hb)
      replace K5 := Lib.hid (K5.out.below hb)
      replace V5 := Lib.hid (V5.out.below hb)
      replace K6 := Lib.hid (K6.out.below hb)
      replace V6 := Lib.hid (V6.out.below hb)
      replace HB := Lib.hid (HB.out.trans (hb.mono HB.out.size))
      clear hb
      have CI := Lib.hid (Sign_any _ z1 8 w3 P1.out.bg)
      rw [HZ1.out, show (0 : Int).sign = 0 from rfl] at CI
      go_wp2_with fail
      refine (CI.out).mono ?_
      rintro e w4 ⟨rfl, hb⟩
      replace K2 := Lib.hid (K2.out.below hb)
      replace K3 := Lib.hid (K3.out.below hb)
      replace HE := Lib.hid (HE.out.below hb)
      replace B0 := Lib.hid (B0.out.below hb)
      replace B1 := Lib.hid (B1.out.below hb)
      replace K5 := Lib.hid (K5.out.below hb)
      replace V5 := Lib.hid (V5.out.below hb)
      replace K6 := Lib.hid (K6.out.below hb)
      replace V6 := Lib.hid (V6.out.below hb)
      replace HB := Lib.hid (HB.out.trans (hb.mono HB.out.size))
      clear hb
      clear CI P1
      go_wp2
      go_ret
      exact ⟨rfl, HB.out⟩
end Go.Proofs.YtndkcimdbidgaaaDoor
