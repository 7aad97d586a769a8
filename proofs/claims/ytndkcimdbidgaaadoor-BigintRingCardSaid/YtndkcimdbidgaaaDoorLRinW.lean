/- The walk of law BigintRing. -/
import Derived.Test.YtndkcimdbidgaaaDoorBlw
import Derived.Test.YtndkcimdbidgaaaDoorBsb
import Derived.Test.YtndkcimdbidgaaaDoorBmu
import Derived.Test.YtndkcimdbidgaaaDoorBap
import Derived.Test.YtndkcimdbidgaaaDoorBsg
namespace Go.Proofs.YtndkcimdbidgaaaDoor
open Go.ChangeShapes Go.WideShapes Go.ChangeAt Go.RowKit Go.ChangeMaps

def bigintRingS1 (B : Nat) (z0 z1 z2 : Int) (i : Nat) (v : Value) (W : World) : Prop :=
  match i with
  | 1 => OB W B v z0 8
  | 3 => OB W B v z1 8
  | 4 => NB W B v ((z0 + z1)) 9
  | 6 => OB W B v z2 8
  | 7 => NB W B v (((z0 + z1) * z2)) 17
  | 8 => NwB W B v
  | _ => True
theorem bigintRingS1_mono (B : Nat) (z0 z1 z2 : Int) (i : Nat) (v : Value) (W W' : World) (h : bigintRingS1 B z0 z1 z2 i v W) (hb : Below W.heap.size W W') : bigintRingS1 B z0 z1 z2 i v W' := by
  unfold bigintRingS1 at h ⊢
  split at h <;> first | exact h.below hb | trivial
def bigintRingS2 (B : Nat) (z0 z1 z2 : Int) (i : Nat) (v : Value) (W : World) : Prop :=
  match i with
  | 1 => OB W B v z0 8
  | 3 => OB W B v z2 8
  | 4 => NB W B v ((z0 * z2)) 16
  | 6 => OB W B v z1 8
  | 8 => OB W B v z2 8
  | 9 => NB W B v ((z1 * z2)) 16
  | 10 => NB W B v (((z0 * z2) + (z1 * z2))) 17
  | 11 => NwB W B v
  | _ => True
theorem bigintRingS2_mono (B : Nat) (z0 z1 z2 : Int) (i : Nat) (v : Value) (W W' : World) (h : bigintRingS2 B z0 z1 z2 i v W) (hb : Below W.heap.size W W') : bigintRingS2 B z0 z1 z2 i v W' := by
  unfold bigintRingS2 at h ⊢
  split at h <;> first | exact h.below hb | trivial
def bigintRingS3 (B : Nat) (z0 z1 z2 : Int) (i : Nat) (v : Value) (W : World) : Prop :=
  match i with
  | 1 => OB W B v z0 8
  | 3 => OB W B v z1 8
  | 4 => NB W B v ((z0 + z1)) 9
  | 6 => OB W B v z2 8
  | 7 => NB W B v (((z0 + z1) + z2)) 10
  | 9 => OB W B v z0 8
  | 11 => OB W B v z1 8
  | 13 => OB W B v z2 8
  | 14 => NB W B v ((z1 + z2)) 9
  | 15 => NB W B v ((z0 + (z1 + z2))) 10
  | 16 => NwB W B v
  | 17 => NwB W B v
  | _ => True
theorem bigintRingS3_mono (B : Nat) (z0 z1 z2 : Int) (i : Nat) (v : Value) (W W' : World) (h : bigintRingS3 B z0 z1 z2 i v W) (hb : Below W.heap.size W W') : bigintRingS3 B z0 z1 z2 i v W' := by
  unfold bigintRingS3 at h ⊢
  split at h <;> first | exact h.below hb | trivial
def bigintRingS4 (B : Nat) (z0 z1 z2 : Int) (i : Nat) (v : Value) (W : World) : Prop :=
  match i with
  | 1 => OB W B v z0 8
  | 3 => OB W B v z1 8
  | 4 => NB W B v ((z0 * z1)) 16
  | 6 => OB W B v z2 8
  | 7 => NB W B v (((z0 * z1) * z2)) 24
  | 9 => OB W B v z0 8
  | 11 => OB W B v z1 8
  | 13 => OB W B v z2 8
  | 14 => NB W B v ((z1 * z2)) 16
  | 15 => NB W B v ((z0 * (z1 * z2))) 24
  | 16 => NwB W B v
  | 17 => NwB W B v
  | _ => True
theorem bigintRingS4_mono (B : Nat) (z0 z1 z2 : Int) (i : Nat) (v : Value) (W W' : World) (h : bigintRingS4 B z0 z1 z2 i v W) (hb : Below W.heap.size W W') : bigintRingS4 B z0 z1 z2 i v W' := by
  unfold bigintRingS4 at h ⊢
  split at h <;> first | exact h.below hb | trivial
set_option maxRecDepth 100000 in
set_option maxHeartbeats 4000000 in
theorem bigintRing_walk (x0 : Bool) (A0 : Option Addr) (n0 c0 : Nat) (D0 : List Nat) (x1 : Bool) (A1 : Option Addr) (n1 c1 : Nat) (D1 : List Nat) (x2 : Bool) (A2 : Option Addr) (n2 c2 : Nat) (D2 : List Nat) (w : World) (k0 : DG w A0 n0 D0) (l0 : Sl A0 n0 c0) (k1 : DG w A1 n1 D1) (l1 : Sl A1 n1 c1) (k2 : DG w A2 n2 D2) (l2 : Sl A2 n2 c2) (hE : EnvB w) : Calls Tryd.prog 10 #[.agg #[.bool x0, .slice A0 n0 c0], .agg #[.bool x1, .slice A1 n1 c1], .agg #[.bool x2, .slice A2 n2 c2]] w fun e w' => e = .returned (.bool true) ∧ Below w.heap.size w w' := by
  have HE := Lib.hid hE
  clear hE
  obtain ⟨w0, hw0⟩ : ∃ W, W = ((w.alloc (.cells #[.bool x0, .slice A0 n0 c0] 24)).alloc (.cells #[.bool x1, .slice A1 n1 c1] 24)).alloc (.cells #[.bool x2, .slice A2 n2 c2] 24) := ⟨_, rfl⟩
  have hb0 : Below w.heap.size w w0 := by rw [hw0]; exact ((((Below.refl _ w).alloc (Nat.le_refl _) _).alloc (by first | (simp; done) | (simp; omega)) _).alloc (by first | (simp; done) | (simp; omega)) _)
  have HB := Lib.hid hb0
  replace HE := Lib.hid (HE.out.below hb0)
  have K3 := Lib.hid (show Blk w0 (w.heap.size) 24 #[.bool x0, .slice A0 n0 c0] by rw [hw0]; exact (((Blk.new _ _ _).alloc _).alloc _))
  have G0 := Lib.hid (show DG w0 A0 n0 D0 from k0.below hb0)
  have L0 := Lib.hid l0
  obtain ⟨z0, hz0⟩ : ∃ z, z = sgn x0 (dv 4294967296 D0) := ⟨_, rfl⟩
  have Z0 := Lib.hid hz0
  clear hz0 k0 l0
  have K4 := Lib.hid (show Blk w0 (w.heap.size + 1) 24 #[.bool x1, .slice A1 n1 c1] by rw [hw0]; exact ((Blk.new_ (by simp) rfl : Blk ((w.alloc _).alloc _) _ _ _).alloc _))
  have G1 := Lib.hid (show DG w0 A1 n1 D1 from k1.below hb0)
  have L1 := Lib.hid l1
  obtain ⟨z1, hz1⟩ : ∃ z, z = sgn x1 (dv 4294967296 D1) := ⟨_, rfl⟩
  have Z1 := Lib.hid hz1
  clear hz1 k1 l1
  have K5 := Lib.hid (show Blk w0 (w.heap.size + 1 + 1) 24 #[.bool x2, .slice A2 n2 c2] by rw [hw0]; exact Blk.new_ (by simp) rfl)
  have G2 := Lib.hid (show DG w0 A2 n2 D2 from k2.below hb0)
  have L2 := Lib.hid l2
  obtain ⟨z2, hz2⟩ : ∃ z, z = sgn x2 (dv 4294967296 D2) := ⟨_, rfl⟩
  have Z2 := Lib.hid hz2
  clear hz2 k2 l2
  clear hb0
  go_enter Tryd.func10, Tryd.ntmps10
  go_wp2_with fail
  rw [← hw0]
  clear hw0
  refine (awake_any _ HE.out).mono ?_
  rintro e w1 ⟨rfl, hb⟩
  replace K3 := Lib.hid (K3.out.below hb)
  replace G0 := Lib.hid (G0.out.below hb)
  replace K4 := Lib.hid (K4.out.below hb)
  replace G1 := Lib.hid (G1.out.below hb)
  replace K5 := Lib.hid (K5.out.below hb)
  replace G2 := Lib.hid (G2.out.below hb)
  replace HE := Lib.hid (HE.out.below hb)
  replace HB := Lib.hid (HB.out.trans (hb.mono HB.out.size))
  clear hb
  have k3_0 : w1.cell? ⟨w.heap.size, 0, none⟩ = some (.bool x0) := K3.out.cell 0
  have k3_1 : w1.cell? ⟨w.heap.size, 1, none⟩ = some (.slice A0 n0 c0) := K3.out.cell 1
  have k4_0 : w1.cell? ⟨w.heap.size + 1, 0, none⟩ = some (.bool x1) := K4.out.cell 0
  have k4_1 : w1.cell? ⟨w.heap.size + 1, 1, none⟩ = some (.slice A1 n1 c1) := K4.out.cell 1
  have k5_0 : w1.cell? ⟨w.heap.size + 1 + 1, 0, none⟩ = some (.bool x2) := K5.out.cell 0
  have k5_1 : w1.cell? ⟨w.heap.size + 1 + 1, 1, none⟩ = some (.slice A2 n2 c2) := K5.out.cell 1
  obtain ⟨wb, hwb⟩ : ∃ W, W = w1.alloc (.cells #[.bool x0, .slice A0 n0 c0, .bool x1, .slice A1 n1 c1, .bool x2, .slice A2 n2 c2] 24) := ⟨_, rfl⟩
  have hbb : Below w1.heap.size w1 wb := by rw [hwb]; exact (Below.refl _ _).alloc (Nat.le_refl _) _
  have KB : Blk wb w1.heap.size 24 #[.bool x0, .slice A0 n0 c0, .bool x1, .slice A1 n1 c1, .bool x2, .slice A2 n2 c2] := by rw [hwb]; exact Blk.new _ _ _
  have CS := Lib.hid (small_any [(x0, A0, n0, c0), (x1, A1, n1, c1), (x2, A2, n2, c2)] w1.heap.size 3 wb KB.lt (fun j v h => (KB.cell j).trans (by simpa [bigc] using h)) (by simp))
  clear KB
  go_wp2_with fail
  rw [← hwb]
  clear hwb
  clear k3_0 k3_1 k4_0 k4_1 k5_0 k5_1
  replace K3 := Lib.hid (K3.out.below hbb)
  replace G0 := Lib.hid (G0.out.below hbb)
  replace K4 := Lib.hid (K4.out.below hbb)
  replace G1 := Lib.hid (G1.out.below hbb)
  replace K5 := Lib.hid (K5.out.below hbb)
  replace G2 := Lib.hid (G2.out.below hbb)
  replace HE := Lib.hid (HE.out.below hbb)
  replace HB := Lib.hid (HB.out.trans (hbb.mono HB.out.size))
  clear hbb
  refine CS.out.mono ?_
  rintro e w2 ⟨b, rfl, hsm, hb⟩
  clear CS
  replace K3 := Lib.hid (K3.out.below hb)
  replace G0 := Lib.hid (G0.out.below hb)
  replace K4 := Lib.hid (K4.out.below hb)
  replace G1 := Lib.hid (G1.out.below hb)
  replace K5 := Lib.hid (K5.out.below hb)
  replace G2 := Lib.hid (G2.out.below hb)
  replace HE := Lib.hid (HE.out.below hb)
  replace HB := Lib.hid (HB.out.trans (hb.mono HB.out.size))
  clear hb
  have HSM := Lib.hid hsm
  clear hsm
  cases b
  · go_wp2_with fail
    refine (awake_any _ HE.out).mono ?_
    rintro e wz ⟨rfl, hb⟩
    have HBz := Lib.hid (HB.out.trans (hb.mono HB.out.size))
    clear hb
    go_wp2
    go_ret
    exact ⟨rfl, HBz.out⟩

  have h80 : n0 ≤ 8 := HSM.out rfl (x0, A0, n0, c0) (by simp)
  have h81 : n1 ≤ 8 := HSM.out rfl (x1, A1, n1, c1) (by simp)
  have h82 : n2 ≤ 8 := HSM.out rfl (x2, A2, n2, c2) (by simp)
  have B0 := Lib.hid (show BG w2 (.agg #[.bool x0, .slice A0 n0 c0]) z0 8 from ⟨x0, A0, n0, c0, D0, rfl, G0.out, L0.out, h80, Z0.out⟩)
  clear G0 L0
  have B1 := Lib.hid (show BG w2 (.agg #[.bool x1, .slice A1 n1 c1]) z1 8 from ⟨x1, A1, n1, c1, D1, rfl, G1.out, L1.out, h81, Z1.out⟩)
  clear G1 L1
  have B2 := Lib.hid (show BG w2 (.agg #[.bool x2, .slice A2 n2 c2]) z2 8 from ⟨x2, A2, n2, c2, D2, rfl, G2.out, L2.out, h82, Z2.out⟩)
  clear G2 L2
  clear HSM h80 h81 h82
  have k3_0 : w2.cell? ⟨w.heap.size, 0, none⟩ = some (.bool x0) := K3.out.cell 0
  have k3_1 : w2.cell? ⟨w.heap.size, 1, none⟩ = some (.slice A0 n0 c0) := K3.out.cell 1
  have k4_0 : w2.cell? ⟨w.heap.size + 1, 0, none⟩ = some (.bool x1) := K4.out.cell 0
  have k4_1 : w2.cell? ⟨w.heap.size + 1, 1, none⟩ = some (.slice A1 n1 c1) := K4.out.cell 1
  have k5_0 : w2.cell? ⟨w.heap.size + 1 + 1, 0, none⟩ = some (.bool x2) := K5.out.cell 0
  have k5_1 : w2.cell? ⟨w.heap.size + 1 + 1, 1, none⟩ = some (.slice A2 n2 c2) := K5.out.cell 1
  go_wp2_with fail
  have hS0 : Below w2.heap.size w2 w2.drew := below_drew (Below.refl _ _)
  refine wp_region_mix 9 (fun w' => Below w2.heap.size w2 w') (by kernel_rfl) (by decide) ?_
  generalize w2.drew = y0 at hS0 ⊢
  refine wpM_take (i := 0) (oi := ⟨some 24, _, _, _, _, _⟩) (v := ?_) rfl (by decide +kernel) (by decide +kernel) (by decide +kernel) (fun _ _ _ h => h) (Or.inl ⟨by rfl, ?_⟩) hS0 ?_
  case refine_2 =>
    intro w' hSw
    have k3_0' := keepcell hSw k3_0
    have k3_1' := keepcell hSw k3_1
    go_simp
    try (with_reducible rfl)
  try simp only [Act.put, List.setIfInBounds_toArray, List.set_cons_zero, List.set_cons_succ]
  refine wpM_take (i := 2) (oi := ⟨some 26, _, _, _, _, _⟩) (v := ?_) rfl (by decide +kernel) (by decide +kernel) (by decide +kernel) (fun _ _ _ h => h) (Or.inl ⟨by rfl, ?_⟩) hS0 ?_
  case refine_2 =>
    intro w' hSw
    have k4_0' := keepcell hSw k4_0
    have k4_1' := keepcell hSw k4_1
    go_simp
    try (with_reducible rfl)
  try simp only [Act.put, List.setIfInBounds_toArray, List.set_cons_zero, List.set_cons_succ]
  refine wpM_take (i := 5) (oi := ⟨some 29, _, _, _, _, _⟩) (v := ?_) rfl (by decide +kernel) (by decide +kernel) (by decide +kernel) (fun _ _ _ h => h) (Or.inl ⟨by rfl, ?_⟩) hS0 ?_
  case refine_2 =>
    intro w' hSw
    have k5_0' := keepcell hSw k5_0
    have k5_1' := keepcell hSw k5_1
    go_simp
    try (with_reducible rfl)
  try simp only [Act.put, List.setIfInBounds_toArray, List.set_cons_zero, List.set_cons_succ]
  clear k3_0 k3_1 k4_0 k4_1 k5_0 k5_1
  refine wpM_apart (fun i => if i = 8 then 7 else 24 + i) [1, 3, 4, 6, 7, 8] (bigintRingS1 w2.heap.size z0 z1 z2) ap0 (by decide +kernel) (fun i j h => absurd h ap0_no) (bigintRingS1_mono w2.heap.size z0 z1 z2) hS0 ?_ ?_
  · refine List.forall_mem_cons.2 ⟨?_, List.forall_mem_cons.2 ⟨?_, List.forall_mem_cons.2 ⟨?_, List.forall_mem_cons.2 ⟨?_, List.forall_mem_cons.2 ⟨?_, List.forall_mem_cons.2 ⟨?_, List.forall_mem_nil _⟩⟩⟩⟩⟩⟩
    · refine ⟨⟨some 25, _, _, _, _, _⟩, rfl, rfl, fun vs W K hS hd hK => ?_⟩
      simp only [puts, List.foldl_cons, List.foldl_nil, Act.put, List.setIfInBounds_toArray, List.set_cons_zero, List.set_cons_succ, Nat.reduceAdd, Nat.reduceSub, Nat.reduceEqDiff, ↓reduceIte, reduceCtorEq] at hK ⊢
      go_simp
      refine (cp_bg W _ z0 8 (B0.out.below hS) (by decide)).mono ?_
      rintro e W' ⟨v, rfl, hv, hb⟩
      exact hK _ _ (hS.trans (hb.mono hS.size)) hb (hv.mono hS.size) (fun j h => absurd h ap0_no)
    · refine ⟨⟨some 27, _, _, _, _, _⟩, rfl, rfl, fun vs W K hS hd hK => ?_⟩
      simp only [puts, List.foldl_cons, List.foldl_nil, Act.put, List.setIfInBounds_toArray, List.set_cons_zero, List.set_cons_succ, Nat.reduceAdd, Nat.reduceSub, Nat.reduceEqDiff, ↓reduceIte, reduceCtorEq] at hK ⊢
      go_simp
      refine (cp_bg W _ z1 8 (B1.out.below hS) (by decide)).mono ?_
      rintro e W' ⟨v, rfl, hv, hb⟩
      exact hK _ _ (hS.trans (hb.mono hS.size)) hb (hv.mono hS.size) (fun j h => absurd h ap0_no)
    · refine ⟨⟨some 28, _, _, _, _, _⟩, rfl, rfl, fun vs W K hS hd hK => ?_⟩
      have d1 : OB W w2.heap.size (vs 1) z0 8 := hd 1 (by decide) (by decide +kernel)
      have d3 : OB W w2.heap.size (vs 3) z1 8 := hd 3 (by decide) (by decide +kernel)
      simp only [puts, List.foldl_cons, List.foldl_nil, Act.put, List.setIfInBounds_toArray, List.set_cons_zero, List.set_cons_succ, Nat.reduceAdd, Nat.reduceSub, Nat.reduceEqDiff, ↓reduceIte, reduceCtorEq] at hK ⊢
      go_simp
      refine (Add_any _ _ (z0) (z1) 8 8 W d1.bg d3.bg (by decide) (by decide)).mono ?_
      rintro e W' ⟨v, rfl, hv, hb⟩
      exact hK _ _ (hS.trans (hb.mono hS.size)) hb (hv.mono hS.size (by decide)) (fun j h => absurd h ap0_no)
    · refine ⟨⟨some 30, _, _, _, _, _⟩, rfl, rfl, fun vs W K hS hd hK => ?_⟩
      simp only [puts, List.foldl_cons, List.foldl_nil, Act.put, List.setIfInBounds_toArray, List.set_cons_zero, List.set_cons_succ, Nat.reduceAdd, Nat.reduceSub, Nat.reduceEqDiff, ↓reduceIte, reduceCtorEq] at hK ⊢
      go_simp
      refine (cp_bg W _ z2 8 (B2.out.below hS) (by decide)).mono ?_
      rintro e W' ⟨v, rfl, hv, hb⟩
      exact hK _ _ (hS.trans (hb.mono hS.size)) hb (hv.mono hS.size) (fun j h => absurd h ap0_no)
    · refine ⟨⟨some 31, _, _, _, _, _⟩, rfl, rfl, fun vs W K hS hd hK => ?_⟩
      have d4 : NB W w2.heap.size (vs 4) ((z0 + z1)) 9 := hd 4 (by decide) (by decide +kernel)
      have d6 : OB W w2.heap.size (vs 6) z2 8 := hd 6 (by decide) (by decide +kernel)
      simp only [puts, List.foldl_cons, List.foldl_nil, Act.put, List.setIfInBounds_toArray, List.set_cons_zero, List.set_cons_succ, Nat.reduceAdd, Nat.reduceSub, Nat.reduceEqDiff, ↓reduceIte, reduceCtorEq] at hK ⊢
      go_simp
      refine (Mul_any _ _ ((z0 + z1)) (z2) 9 8 W d4.bg d6.bg (by decide) (by decide)).mono ?_
      rintro e W' ⟨v, rfl, hv, hb⟩
      exact hK _ _ (hS.trans (hb.mono hS.size)) hb (hv.mono hS.size (by decide)) (fun j h => absurd h ap0_no)
    · refine ⟨⟨some 7, _, _, _, _, _⟩, rfl, rfl, fun vs W K hS hd hK => ?_⟩
      simp only [puts, List.foldl_cons, List.foldl_nil, Act.put, List.setIfInBounds_toArray, List.set_cons_zero, List.set_cons_succ, Nat.reduceAdd, Nat.reduceSub, Nat.reduceEqDiff, ↓reduceIte, reduceCtorEq] at hK ⊢
      go_simp
      exact hK _ _ (hS.alloc hS.size _) ((Below.refl _ _).alloc (Nat.le_refl _) _) (NwB.new hS.size) (fun j h => absurd h ap0_no)
  · intro vs W hS hd hap
    have d8 : NwB W w2.heap.size (vs 8) := hd 8 (by decide)
    have d7 : NB W w2.heap.size (vs 7) (((z0 + z1) * z2)) 17 := hd 7 (by decide)
    obtain ⟨g7, e7, l7, b7⟩ := d8
    obtain ⟨s7, A7, n7, c7, q7⟩ := d7.expose
    clear hap
    simp only [puts, List.foldl_cons, List.foldl_nil, Act.put, List.setIfInBounds_toArray, List.set_cons_zero, List.set_cons_succ, Nat.reduceAdd, Nat.reduceSub, Nat.reduceEqDiff, ↓reduceIte, reduceCtorEq]
    simp only [e7, q7]
    rw [q7] at d7
    have V7 := Lib.hid d7
    have K7 := Lib.hid b7
    clear d7 b7 e7 q7
    simp only [List.drop_succ_cons, List.drop_zero]
    clear hd hS0
    obtain ⟨u3, hu3⟩ : ∃ V, V = W.setRow g7 #[.bool s7, .slice A7 n7 c7] := ⟨_, rfl⟩
    have hbu3 : Below w2.heap.size w2 u3 := by rw [hu3]; exact hS.grown (grown_row _ _ _) hS.size (fun j hj => by injection hj with hj; omega)
    have K7_u3 : Hid (Blk u3 g7 24 #[.bool s7, .slice A7 n7 c7]) := Lib.hid (by rw [hu3]; exact K7.out.setRow)
    replace V7 := Lib.hid (show NB u3 _ _ _ _ from by rw [hu3]; exact V7.out.row K7.out _)
    go_wp2_with (first | (refine wpList_store_row (o := ⟨none, _, _, _, _, _⟩) rfl 24 _ _ rfl (g7) #[.bool s7, .slice A7 n7 c7] rfl rfl 24 _ K7.out (by kernel_rfl) rfl (by simp [Value.oneCell']) ?_; rw [← hu3]))
    replace K7 := K7_u3
    clear hu3
    clear l7
    replace K3 := Lib.hid (K3.out.below hbu3)
    replace K4 := Lib.hid (K4.out.below hbu3)
    replace K5 := Lib.hid (K5.out.below hbu3)
    replace HE := Lib.hid (HE.out.below hbu3)
    replace B0 := Lib.hid (B0.out.below hbu3)
    replace B1 := Lib.hid (B1.out.below hbu3)
    replace B2 := Lib.hid (B2.out.below hbu3)
    replace HB := Lib.hid (HB.out.trans (hbu3.mono HB.out.size))
    clear hbu3
    have k3_0 : u3.cell? ⟨w.heap.size, 0, none⟩ = some (.bool x0) := K3.out.cell 0
    have k3_1 : u3.cell? ⟨w.heap.size, 1, none⟩ = some (.slice A0 n0 c0) := K3.out.cell 1
    have k4_0 : u3.cell? ⟨w.heap.size + 1, 0, none⟩ = some (.bool x1) := K4.out.cell 0
    have k4_1 : u3.cell? ⟨w.heap.size + 1, 1, none⟩ = some (.slice A1 n1 c1) := K4.out.cell 1
    have k5_0 : u3.cell? ⟨w.heap.size + 1 + 1, 0, none⟩ = some (.bool x2) := K5.out.cell 0
    have k5_1 : u3.cell? ⟨w.heap.size + 1 + 1, 1, none⟩ = some (.slice A2 n2 c2) := K5.out.cell 1
    go_wp2_with fail
    have hS0 : Below u3.heap.size u3 u3.drew := below_drew (Below.refl _ _)
    refine wp_region_mix 12 (fun w' => Below u3.heap.size u3 w') (by kernel_rfl) (by decide) ?_
    generalize u3.drew = y0 at hS0 ⊢
    refine wpM_take (i := 0) (oi := ⟨some 32, _, _, _, _, _⟩) (v := ?_) rfl (by decide +kernel) (by decide +kernel) (by decide +kernel) (fun _ _ _ h => h) (Or.inl ⟨by rfl, ?_⟩) hS0 ?_
    case refine_2 =>
      intro w' hSw
      have k3_0' := keepcell hSw k3_0
      have k3_1' := keepcell hSw k3_1
      go_simp
      try (with_reducible rfl)
    try simp only [Act.put, List.setIfInBounds_toArray, List.set_cons_zero, List.set_cons_succ]
    refine wpM_take (i := 2) (oi := ⟨some 34, _, _, _, _, _⟩) (v := ?_) rfl (by decide +kernel) (by decide +kernel) (by decide +kernel) (fun _ _ _ h => h) (Or.inl ⟨by rfl, ?_⟩) hS0 ?_
    case refine_2 =>
      intro w' hSw
      have k5_0' := keepcell hSw k5_0
      have k5_1' := keepcell hSw k5_1
      go_simp
      try (with_reducible rfl)
    try simp only [Act.put, List.setIfInBounds_toArray, List.set_cons_zero, List.set_cons_succ]
    refine wpM_take (i := 5) (oi := ⟨some 37, _, _, _, _, _⟩) (v := ?_) rfl (by decide +kernel) (by decide +kernel) (by decide +kernel) (fun _ _ _ h => h) (Or.inl ⟨by rfl, ?_⟩) hS0 ?_
    case refine_2 =>
      intro w' hSw
      have k4_0' := keepcell hSw k4_0
      have k4_1' := keepcell hSw k4_1
      go_simp
      try (with_reducible rfl)
    try simp only [Act.put, List.setIfInBounds_toArray, List.set_cons_zero, List.set_cons_succ]
    refine wpM_take (i := 7) (oi := ⟨some 39, _, _, _, _, _⟩) (v := ?_) rfl (by decide +kernel) (by decide +kernel) (by decide +kernel) (fun _ _ _ h => h) (Or.inl ⟨by rfl, ?_⟩) hS0 ?_
    case refine_2 =>
      intro w' hSw
      have k5_0' := keepcell hSw k5_0
      have k5_1' := keepcell hSw k5_1
      go_simp
      try (with_reducible rfl)
    try simp only [Act.put, List.setIfInBounds_toArray, List.set_cons_zero, List.set_cons_succ]
    clear k3_0 k3_1 k4_0 k4_1 k5_0 k5_1
    refine wpM_apart (fun i => if i = 11 then 8 else 32 + i) [1, 3, 4, 6, 8, 9, 10, 11] (bigintRingS2 u3.heap.size z0 z1 z2) ap0 (by decide +kernel) (fun i j h => absurd h ap0_no) (bigintRingS2_mono u3.heap.size z0 z1 z2) hS0 ?_ ?_
    · refine List.forall_mem_cons.2 ⟨?_, List.forall_mem_cons.2 ⟨?_, List.forall_mem_cons.2 ⟨?_, List.forall_mem_cons.2 ⟨?_, List.forall_mem_cons.2 ⟨?_, List.forall_mem_cons.2 ⟨?_, List.forall_mem_cons.2 ⟨?_, List.forall_mem_cons.2 ⟨?_, List.forall_mem_nil _⟩⟩⟩⟩⟩⟩⟩⟩
      · refine ⟨⟨some 33, _, _, _, _, _⟩, rfl, rfl, fun vs W K hS hd hK => ?_⟩
        simp only [puts, List.foldl_cons, List.foldl_nil, Act.put, List.setIfInBounds_toArray, List.set_cons_zero, List.set_cons_succ, Nat.reduceAdd, Nat.reduceSub, Nat.reduceEqDiff, ↓reduceIte, reduceCtorEq] at hK ⊢
        go_simp
        refine (cp_bg W _ z0 8 (B0.out.below hS) (by decide)).mono ?_
        rintro e W' ⟨v, rfl, hv, hb⟩
        exact hK _ _ (hS.trans (hb.mono hS.size)) hb (hv.mono hS.size) (fun j h => absurd h ap0_no)
      · refine ⟨⟨some 35, _, _, _, _, _⟩, rfl, rfl, fun vs W K hS hd hK => ?_⟩
        simp only [puts, List.foldl_cons, List.foldl_nil, Act.put, List.setIfInBounds_toArray, List.set_cons_zero, List.set_cons_succ, Nat.reduceAdd, Nat.reduceSub, Nat.reduceEqDiff, ↓reduceIte, reduceCtorEq] at hK ⊢
        go_simp
        refine (cp_bg W _ z2 8 (B2.out.below hS) (by decide)).mono ?_
        rintro e W' ⟨v, rfl, hv, hb⟩
        exact hK _ _ (hS.trans (hb.mono hS.size)) hb (hv.mono hS.size) (fun j h => absurd h ap0_no)
      · refine ⟨⟨some 36, _, _, _, _, _⟩, rfl, rfl, fun vs W K hS hd hK => ?_⟩
        have d1 : OB W u3.heap.size (vs 1) z0 8 := hd 1 (by decide) (by decide +kernel)
        have d3 : OB W u3.heap.size (vs 3) z2 8 := hd 3 (by decide) (by decide +kernel)
        simp only [puts, List.foldl_cons, List.foldl_nil, Act.put, List.setIfInBounds_toArray, List.set_cons_zero, List.set_cons_succ, Nat.reduceAdd, Nat.reduceSub, Nat.reduceEqDiff, ↓reduceIte, reduceCtorEq] at hK ⊢
        go_simp
        refine (Mul_any _ _ (z0) (z2) 8 8 W d1.bg d3.bg (by decide) (by decide)).mono ?_
        rintro e W' ⟨v, rfl, hv, hb⟩
        exact hK _ _ (hS.trans (hb.mono hS.size)) hb (hv.mono hS.size (by decide)) (fun j h => absurd h ap0_no)
      · refine ⟨⟨some 38, _, _, _, _, _⟩, rfl, rfl, fun vs W K hS hd hK => ?_⟩
        simp only [puts, List.foldl_cons, List.foldl_nil, Act.put, List.setIfInBounds_toArray, List.set_cons_zero, List.set_cons_succ, Nat.reduceAdd, Nat.reduceSub, Nat.reduceEqDiff, ↓reduceIte, reduceCtorEq] at hK ⊢
        go_simp
        refine (cp_bg W _ z1 8 (B1.out.below hS) (by decide)).mono ?_
        rintro e W' ⟨v, rfl, hv, hb⟩
        exact hK _ _ (hS.trans (hb.mono hS.size)) hb (hv.mono hS.size) (fun j h => absurd h ap0_no)
      · refine ⟨⟨some 40, _, _, _, _, _⟩, rfl, rfl, fun vs W K hS hd hK => ?_⟩
        simp only [puts, List.foldl_cons, List.foldl_nil, Act.put, List.setIfInBounds_toArray, List.set_cons_zero, List.set_cons_succ, Nat.reduceAdd, Nat.reduceSub, Nat.reduceEqDiff, ↓reduceIte, reduceCtorEq] at hK ⊢
        go_simp
        refine (cp_bg W _ z2 8 (B2.out.below hS) (by decide)).mono ?_
        rintro e W' ⟨v, rfl, hv, hb⟩
        exact hK _ _ (hS.trans (hb.mono hS.size)) hb (hv.mono hS.size) (fun j h => absurd h ap0_no)
      · refine ⟨⟨some 41, _, _, _, _, _⟩, rfl, rfl, fun vs W K hS hd hK => ?_⟩
        have d6 : OB W u3.heap.size (vs 6) z1 8 := hd 6 (by decide) (by decide +kernel)
        have d8 : OB W u3.heap.size (vs 8) z2 8 := hd 8 (by decide) (by decide +kernel)
        simp only [puts, List.foldl_cons, List.foldl_nil, Act.put, List.setIfInBounds_toArray, List.set_cons_zero, List.set_cons_succ, Nat.reduceAdd, Nat.reduceSub, Nat.reduceEqDiff, ↓reduceIte, reduceCtorEq] at hK ⊢
        go_simp
        refine (Mul_any _ _ (z1) (z2) 8 8 W d6.bg d8.bg (by decide) (by decide)).mono ?_
        rintro e W' ⟨v, rfl, hv, hb⟩
        exact hK _ _ (hS.trans (hb.mono hS.size)) hb (hv.mono hS.size (by decide)) (fun j h => absurd h ap0_no)
      · refine ⟨⟨some 42, _, _, _, _, _⟩, rfl, rfl, fun vs W K hS hd hK => ?_⟩
        have d4 : NB W u3.heap.size (vs 4) ((z0 * z2)) 16 := hd 4 (by decide) (by decide +kernel)
        have d9 : NB W u3.heap.size (vs 9) ((z1 * z2)) 16 := hd 9 (by decide) (by decide +kernel)
        simp only [puts, List.foldl_cons, List.foldl_nil, Act.put, List.setIfInBounds_toArray, List.set_cons_zero, List.set_cons_succ, Nat.reduceAdd, Nat.reduceSub, Nat.reduceEqDiff, ↓reduceIte, reduceCtorEq] at hK ⊢
        go_simp
        refine (Add_any _ _ ((z0 * z2)) ((z1 * z2)) 16 16 W d4.bg d9.bg (by decide) (by decide)).mono ?_
        rintro e W' ⟨v, rfl, hv, hb⟩
        exact hK _ _ (hS.trans (hb.mono hS.size)) hb (hv.mono hS.size (by decide)) (fun j h => absurd h ap0_no)
      · refine ⟨⟨some 8, _, _, _, _, _⟩, rfl, rfl, fun vs W K hS hd hK => ?_⟩
        simp only [puts, List.foldl_cons, List.foldl_nil, Act.put, List.setIfInBounds_toArray, List.set_cons_zero, List.set_cons_succ, Nat.reduceAdd, Nat.reduceSub, Nat.reduceEqDiff, ↓reduceIte, reduceCtorEq] at hK ⊢
        go_simp
        exact hK _ _ (hS.alloc hS.size _) ((Below.refl _ _).alloc (Nat.le_refl _) _) (NwB.new hS.size) (fun j h => absurd h ap0_no)
    · intro vs W hS hd hap
      have d11 : NwB W u3.heap.size (vs 11) := hd 11 (by decide)
      have d10 : NB W u3.heap.size (vs 10) (((z0 * z2) + (z1 * z2))) 17 := hd 10 (by decide)
      obtain ⟨g8, e8, l8, b8⟩ := d11
      obtain ⟨s8, A8, n8, c8, q8⟩ := d10.expose
      clear hap
      simp only [puts, List.foldl_cons, List.foldl_nil, Act.put, List.setIfInBounds_toArray, List.set_cons_zero, List.set_cons_succ, Nat.reduceAdd, Nat.reduceSub, Nat.reduceEqDiff, ↓reduceIte, reduceCtorEq]
      simp only [e8, q8]
      rw [q8] at d10
      have V8 := Lib.hid d10
      have K8 := Lib.hid b8
      clear d10 b8 e8 q8
      simp only [List.drop_succ_cons, List.drop_zero]
      clear hd hS0
      obtain ⟨u4, hu4⟩ : ∃ V, V = W.setRow g8 #[.bool s8, .slice A8 n8 c8] := ⟨_, rfl⟩
      have hbu4 : Below u3.heap.size u3 u4 := by rw [hu4]; exact hS.grown (grown_row _ _ _) hS.size (fun j hj => by injection hj with hj; omega)
      have K8_u4 : Hid (Blk u4 g8 24 #[.bool s8, .slice A8 n8 c8]) := Lib.hid (by rw [hu4]; exact K8.out.setRow)
      replace V8 := Lib.hid (show NB u4 _ _ _ _ from by rw [hu4]; exact V8.out.row K8.out _)
      go_wp2_with (first | (refine wpList_store_row (o := ⟨none, _, _, _, _, _⟩) rfl 24 _ _ rfl (g8) #[.bool s8, .slice A8 n8 c8] rfl rfl 24 _ K8.out (by kernel_rfl) rfl (by simp [Value.oneCell']) ?_; rw [← hu4]))
      replace K8 := K8_u4
      clear hu4
      clear l8
      replace K3 := Lib.hid (K3.out.below hbu4)
      replace K4 := Lib.hid (K4.out.below hbu4)
      replace K5 := Lib.hid (K5.out.below hbu4)
      replace HE := Lib.hid (HE.out.below hbu4)
      replace B0 := Lib.hid (B0.out.below hbu4)
      replace B1 := Lib.hid (B1.out.below hbu4)
      replace B2 := Lib.hid (B2.out.below hbu4)
      replace K7 := Lib.hid (K7.out.below hbu4)
      replace V7 := Lib.hid (V7.out.below hbu4)
      replace HB := Lib.hid (HB.out.trans (hbu4.mono HB.out.size))
      clear hbu4
      have k3_0 : u4.cell? ⟨w.heap.size, 0, none⟩ = some (.bool x0) := K3.out.cell 0
      have k3_1 : u4.cell? ⟨w.heap.size, 1, none⟩ = some (.slice A0 n0 c0) := K3.out.cell 1
      have k4_0 : u4.cell? ⟨w.heap.size + 1, 0, none⟩ = some (.bool x1) := K4.out.cell 0
      have k4_1 : u4.cell? ⟨w.heap.size + 1, 1, none⟩ = some (.slice A1 n1 c1) := K4.out.cell 1
      have k5_0 : u4.cell? ⟨w.heap.size + 1 + 1, 0, none⟩ = some (.bool x2) := K5.out.cell 0
      have k5_1 : u4.cell? ⟨w.heap.size + 1 + 1, 1, none⟩ = some (.slice A2 n2 c2) := K5.out.cell 1
      go_wp2_with fail
      have hS0 : Below u4.heap.size u4 u4.drew := below_drew (Below.refl _ _)
      refine wp_region_mix 18 (fun w' => Below u4.heap.size u4 w') (by kernel_rfl) (by decide) ?_
      generalize u4.drew = y0 at hS0 ⊢
      refine wpM_take (i := 0) (oi := ⟨some 43, _, _, _, _, _⟩) (v := ?_) rfl (by decide +kernel) (by decide +kernel) (by decide +kernel) (fun _ _ _ h => h) (Or.inl ⟨by rfl, ?_⟩) hS0 ?_
      case refine_2 =>
        intro w' hSw
        have k3_0' := keepcell hSw k3_0
        have k3_1' := keepcell hSw k3_1
        go_simp
        try (with_reducible rfl)
      try simp only [Act.put, List.setIfInBounds_toArray, List.set_cons_zero, List.set_cons_succ]
      refine wpM_take (i := 2) (oi := ⟨some 45, _, _, _, _, _⟩) (v := ?_) rfl (by decide +kernel) (by decide +kernel) (by decide +kernel) (fun _ _ _ h => h) (Or.inl ⟨by rfl, ?_⟩) hS0 ?_
      case refine_2 =>
        intro w' hSw
        have k4_0' := keepcell hSw k4_0
        have k4_1' := keepcell hSw k4_1
        go_simp
        try (with_reducible rfl)
      try simp only [Act.put, List.setIfInBounds_toArray, List.set_cons_zero, List.set_cons_succ]
      refine wpM_take (i := 5) (oi := ⟨some 48, _, _, _, _, _⟩) (v := ?_) rfl (by decide +kernel) (by decide +kernel) (by decide +kernel) (fun _ _ _ h => h) (Or.inl ⟨by rfl, ?_⟩) hS0 ?_
      case refine_2 =>
        intro w' hSw
        have k5_0' := keepcell hSw k5_0
        have k5_1' := keepcell hSw k5_1
        go_simp
        try (with_reducible rfl)
      try simp only [Act.put, List.setIfInBounds_toArray, List.set_cons_zero, List.set_cons_succ]
      refine wpM_take (i := 8) (oi := ⟨some 51, _, _, _, _, _⟩) (v := ?_) rfl (by decide +kernel) (by decide +kernel) (by decide +kernel) (fun _ _ _ h => h) (Or.inl ⟨by rfl, ?_⟩) hS0 ?_
      case refine_2 =>
        intro w' hSw
        have k3_0' := keepcell hSw k3_0
        have k3_1' := keepcell hSw k3_1
        go_simp
        try (with_reducible rfl)
      try simp only [Act.put, List.setIfInBounds_toArray, List.set_cons_zero, List.set_cons_succ]
      refine wpM_take (i := 10) (oi := ⟨some 53, _, _, _, _, _⟩) (v := ?_) rfl (by decide +kernel) (by decide +kernel) (by decide +kernel) (fun _ _ _ h => h) (Or.inl ⟨by rfl, ?_⟩) hS0 ?_
      case refine_2 =>
        intro w' hSw
        have k4_0' := keepcell hSw k4_0
        have k4_1' := keepcell hSw k4_1
        go_simp
        try (with_reducible rfl)
      try simp only [Act.put, List.setIfInBounds_toArray, List.set_cons_zero, List.set_cons_succ]
      refine wpM_take (i := 12) (oi := ⟨some 55, _, _, _, _, _⟩) (v := ?_) rfl (by decide +kernel) (by decide +kernel) (by decide +kernel) (fun _ _ _ h => h) (Or.inl ⟨by rfl, ?_⟩) hS0 ?_
      case refine_2 =>
        intro w' hSw
        have k5_0' := keepcell hSw k5_0
        have k5_1' := keepcell hSw k5_1
        go_simp
        try (with_reducible rfl)
      try simp only [Act.put, List.setIfInBounds_toArray, List.set_cons_zero, List.set_cons_succ]
      clear k3_0 k3_1 k4_0 k4_1 k5_0 k5_1
      refine wpM_apart (fun i => if i = 16 then 9 else if i = 17 then 10 else 43 + i) [1, 3, 4, 6, 7, 9, 11, 13, 14, 15, 16, 17] (bigintRingS3 u4.heap.size z0 z1 z2) (ap2 16 17) (by decide +kernel) (ap2_sym (by decide)) (bigintRingS3_mono u4.heap.size z0 z1 z2) hS0 ?_ ?_
      · refine List.forall_mem_cons.2 ⟨?_, List.forall_mem_cons.2 ⟨?_, List.forall_mem_cons.2 ⟨?_, List.forall_mem_cons.2 ⟨?_, List.forall_mem_cons.2 ⟨?_, List.forall_mem_cons.2 ⟨?_, List.forall_mem_cons.2 ⟨?_, List.forall_mem_cons.2 ⟨?_, List.forall_mem_cons.2 ⟨?_, List.forall_mem_cons.2 ⟨?_, List.forall_mem_cons.2 ⟨?_, List.forall_mem_cons.2 ⟨?_, List.forall_mem_nil _⟩⟩⟩⟩⟩⟩⟩⟩⟩⟩⟩⟩
        · refine ⟨⟨some 44, _, _, _, _, _⟩, rfl, rfl, fun vs W K hS hd hK => ?_⟩
          simp only [puts, List.foldl_cons, List.foldl_nil, Act.put, List.setIfInBounds_toArray, List.set_cons_zero, List.set_cons_succ, Nat.reduceAdd, Nat.reduceSub, Nat.reduceEqDiff, ↓reduceIte, reduceCtorEq] at hK ⊢
          go_simp
          refine (cp_bg W _ z0 8 (B0.out.below hS) (by decide)).mono ?_
          rintro e W' ⟨v, rfl, hv, hb⟩
          exact hK _ _ (hS.trans (hb.mono hS.size)) hb (hv.mono hS.size) (fun j h => absurd h (ap2_no (by decide) (by decide)))
        · refine ⟨⟨some 46, _, _, _, _, _⟩, rfl, rfl, fun vs W K hS hd hK => ?_⟩
          simp only [puts, List.foldl_cons, List.foldl_nil, Act.put, List.setIfInBounds_toArray, List.set_cons_zero, List.set_cons_succ, Nat.reduceAdd, Nat.reduceSub, Nat.reduceEqDiff, ↓reduceIte, reduceCtorEq] at hK ⊢
          go_simp
          refine (cp_bg W _ z1 8 (B1.out.below hS) (by decide)).mono ?_
          rintro e W' ⟨v, rfl, hv, hb⟩
          exact hK _ _ (hS.trans (hb.mono hS.size)) hb (hv.mono hS.size) (fun j h => absurd h (ap2_no (by decide) (by decide)))
        · refine ⟨⟨some 47, _, _, _, _, _⟩, rfl, rfl, fun vs W K hS hd hK => ?_⟩
          have d1 : OB W u4.heap.size (vs 1) z0 8 := hd 1 (by decide) (by decide +kernel)
          have d3 : OB W u4.heap.size (vs 3) z1 8 := hd 3 (by decide) (by decide +kernel)
          simp only [puts, List.foldl_cons, List.foldl_nil, Act.put, List.setIfInBounds_toArray, List.set_cons_zero, List.set_cons_succ, Nat.reduceAdd, Nat.reduceSub, Nat.reduceEqDiff, ↓reduceIte, reduceCtorEq] at hK ⊢
          go_simp
          refine (Add_any _ _ (z0) (z1) 8 8 W d1.bg d3.bg (by decide) (by decide)).mono ?_
          rintro e W' ⟨v, rfl, hv, hb⟩
          exact hK _ _ (hS.trans (hb.mono hS.size)) hb (hv.mono hS.size (by decide)) (fun j h => absurd h (ap2_no (by decide) (by decide)))
        · refine ⟨⟨some 49, _, _, _, _, _⟩, rfl, rfl, fun vs W K hS hd hK => ?_⟩
          simp only [puts, List.foldl_cons, List.foldl_nil, Act.put, List.setIfInBounds_toArray, List.set_cons_zero, List.set_cons_succ, Nat.reduceAdd, Nat.reduceSub, Nat.reduceEqDiff, ↓reduceIte, reduceCtorEq] at hK ⊢
          go_simp
          refine (cp_bg W _ z2 8 (B2.out.below hS) (by decide)).mono ?_
          rintro e W' ⟨v, rfl, hv, hb⟩
          exact hK _ _ (hS.trans (hb.mono hS.size)) hb (hv.mono hS.size) (fun j h => absurd h (ap2_no (by decide) (by decide)))
        · refine ⟨⟨some 50, _, _, _, _, _⟩, rfl, rfl, fun vs W K hS hd hK => ?_⟩
          have d4 : NB W u4.heap.size (vs 4) ((z0 + z1)) 9 := hd 4 (by decide) (by decide +kernel)
          have d6 : OB W u4.heap.size (vs 6) z2 8 := hd 6 (by decide) (by decide +kernel)
          simp only [puts, List.foldl_cons, List.foldl_nil, Act.put, List.setIfInBounds_toArray, List.set_cons_zero, List.set_cons_succ, Nat.reduceAdd, Nat.reduceSub, Nat.reduceEqDiff, ↓reduceIte, reduceCtorEq] at hK ⊢
          go_simp
          refine (Add_any _ _ ((z0 + z1)) (z2) 9 8 W d4.bg d6.bg (by decide) (by decide)).mono ?_
          rintro e W' ⟨v, rfl, hv, hb⟩
          exact hK _ _ (hS.trans (hb.mono hS.size)) hb (hv.mono hS.size (by decide)) (fun j h => absurd h (ap2_no (by decide) (by decide)))
        · refine ⟨⟨some 52, _, _, _, _, _⟩, rfl, rfl, fun vs W K hS hd hK => ?_⟩
          simp only [puts, List.foldl_cons, List.foldl_nil, Act.put, List.setIfInBounds_toArray, List.set_cons_zero, List.set_cons_succ, Nat.reduceAdd, Nat.reduceSub, Nat.reduceEqDiff, ↓reduceIte, reduceCtorEq] at hK ⊢
          go_simp
          refine (cp_bg W _ z0 8 (B0.out.below hS) (by decide)).mono ?_
          rintro e W' ⟨v, rfl, hv, hb⟩
          exact hK _ _ (hS.trans (hb.mono hS.size)) hb (hv.mono hS.size) (fun j h => absurd h (ap2_no (by decide) (by decide)))
        · refine ⟨⟨some 54, _, _, _, _, _⟩, rfl, rfl, fun vs W K hS hd hK => ?_⟩
          simp only [puts, List.foldl_cons, List.foldl_nil, Act.put, List.setIfInBounds_toArray, List.set_cons_zero, List.set_cons_succ, Nat.reduceAdd, Nat.reduceSub, Nat.reduceEqDiff, ↓reduceIte, reduceCtorEq] at hK ⊢
          go_simp
          refine (cp_bg W _ z1 8 (B1.out.below hS) (by decide)).mono ?_
          rintro e W' ⟨v, rfl, hv, hb⟩
          exact hK _ _ (hS.trans (hb.mono hS.size)) hb (hv.mono hS.size) (fun j h => absurd h (ap2_no (by decide) (by decide)))
        · refine ⟨⟨some 56, _, _, _, _, _⟩, rfl, rfl, fun vs W K hS hd hK => ?_⟩
          simp only [puts, List.foldl_cons, List.foldl_nil, Act.put, List.setIfInBounds_toArray, List.set_cons_zero, List.set_cons_succ, Nat.reduceAdd, Nat.reduceSub, Nat.reduceEqDiff, ↓reduceIte, reduceCtorEq] at hK ⊢
          go_simp
          refine (cp_bg W _ z2 8 (B2.out.below hS) (by decide)).mono ?_
          rintro e W' ⟨v, rfl, hv, hb⟩
          exact hK _ _ (hS.trans (hb.mono hS.size)) hb (hv.mono hS.size) (fun j h => absurd h (ap2_no (by decide) (by decide)))
        · refine ⟨⟨some 57, _, _, _, _, _⟩, rfl, rfl, fun vs W K hS hd hK => ?_⟩
          have d11 : OB W u4.heap.size (vs 11) z1 8 := hd 11 (by decide) (by decide +kernel)
          have d13 : OB W u4.heap.size (vs 13) z2 8 := hd 13 (by decide) (by decide +kernel)
          simp only [puts, List.foldl_cons, List.foldl_nil, Act.put, List.setIfInBounds_toArray, List.set_cons_zero, List.set_cons_succ, Nat.reduceAdd, Nat.reduceSub, Nat.reduceEqDiff, ↓reduceIte, reduceCtorEq] at hK ⊢
          go_simp
          refine (Add_any _ _ (z1) (z2) 8 8 W d11.bg d13.bg (by decide) (by decide)).mono ?_
          rintro e W' ⟨v, rfl, hv, hb⟩
          exact hK _ _ (hS.trans (hb.mono hS.size)) hb (hv.mono hS.size (by decide)) (fun j h => absurd h (ap2_no (by decide) (by decide)))
        · refine ⟨⟨some 58, _, _, _, _, _⟩, rfl, rfl, fun vs W K hS hd hK => ?_⟩
          have d9 : OB W u4.heap.size (vs 9) z0 8 := hd 9 (by decide) (by decide +kernel)
          have d14 : NB W u4.heap.size (vs 14) ((z1 + z2)) 9 := hd 14 (by decide) (by decide +kernel)
          simp only [puts, List.foldl_cons, List.foldl_nil, Act.put, List.setIfInBounds_toArray, List.set_cons_zero, List.set_cons_succ, Nat.reduceAdd, Nat.reduceSub, Nat.reduceEqDiff, ↓reduceIte, reduceCtorEq] at hK ⊢
          go_simp
          refine (Add_any _ _ (z0) ((z1 + z2)) 8 9 W d9.bg d14.bg (by decide) (by decide)).mono ?_
          rintro e W' ⟨v, rfl, hv, hb⟩
          exact hK _ _ (hS.trans (hb.mono hS.size)) hb (hv.mono hS.size (by decide)) (fun j h => absurd h (ap2_no (by decide) (by decide)))
        · refine ⟨⟨some 9, _, _, _, _, _⟩, rfl, rfl, fun vs W K hS hd hK => ?_⟩
          simp only [puts, List.foldl_cons, List.foldl_nil, Act.put, List.setIfInBounds_toArray, List.set_cons_zero, List.set_cons_succ, Nat.reduceAdd, Nat.reduceSub, Nat.reduceEqDiff, ↓reduceIte, reduceCtorEq] at hK ⊢
          go_simp
          exact hK _ _ (hS.alloc hS.size _) ((Below.refl _ _).alloc (Nat.le_refl _) _) (NwB.new hS.size) (fun j h u hu => by
            obtain rfl := ap2_l (by decide) h
            exact (show NwB W u4.heap.size u from hu).ne)
        · refine ⟨⟨some 10, _, _, _, _, _⟩, rfl, rfl, fun vs W K hS hd hK => ?_⟩
          simp only [puts, List.foldl_cons, List.foldl_nil, Act.put, List.setIfInBounds_toArray, List.set_cons_zero, List.set_cons_succ, Nat.reduceAdd, Nat.reduceSub, Nat.reduceEqDiff, ↓reduceIte, reduceCtorEq] at hK ⊢
          go_simp
          exact hK _ _ (hS.alloc hS.size _) ((Below.refl _ _).alloc (Nat.le_refl _) _) (NwB.new hS.size) (fun j h u hu => by
            obtain rfl := ap2_r (by decide) h
            exact (show NwB W u4.heap.size u from hu).ne)
      · intro vs W hS hd hap
        have d16 : NwB W u4.heap.size (vs 16) := hd 16 (by decide)
        have d7 : NB W u4.heap.size (vs 7) (((z0 + z1) + z2)) 10 := hd 7 (by decide)
        have d17 : NwB W u4.heap.size (vs 17) := hd 17 (by decide)
        have d15 : NB W u4.heap.size (vs 15) ((z0 + (z1 + z2))) 10 := hd 15 (by decide)
        obtain ⟨g9, e9, l9, b9⟩ := d16
        obtain ⟨s9, A9, n9, c9, q9⟩ := d7.expose
        obtain ⟨g10, e10, l10, b10⟩ := d17
        obtain ⟨s10, A10, n10, c10, q10⟩ := d15.expose
        have hne : g9 ≠ g10 := by
          intro e
          refine hap 16 (by decide) 17 (by decide) (by decide) ?_
          rw [e9, e10, e]
        clear hap
        simp only [puts, List.foldl_cons, List.foldl_nil, Act.put, List.setIfInBounds_toArray, List.set_cons_zero, List.set_cons_succ, Nat.reduceAdd, Nat.reduceSub, Nat.reduceEqDiff, ↓reduceIte, reduceCtorEq]
        simp only [e9, q9, e10, q10]
        rw [q9] at d7
        have V9 := Lib.hid d7
        have K9 := Lib.hid b9
        clear d7 b9 e9 q9
        rw [q10] at d15
        have V10 := Lib.hid d15
        have K10 := Lib.hid b10
        clear d15 b10 e10 q10
        simp only [List.drop_succ_cons, List.drop_zero]
        clear hd hS0
        obtain ⟨u5, hu5⟩ : ∃ V, V = W.setRow g9 #[.bool s9, .slice A9 n9 c9] := ⟨_, rfl⟩
        have hbu5 : Below u4.heap.size u4 u5 := by rw [hu5]; exact hS.grown (grown_row _ _ _) hS.size (fun j hj => by injection hj with hj; omega)
        have K9_u5 : Hid (Blk u5 g9 24 #[.bool s9, .slice A9 n9 c9]) := Lib.hid (by rw [hu5]; exact K9.out.setRow)
        replace V9 := Lib.hid (show NB u5 _ _ _ _ from by rw [hu5]; exact V9.out.row K9.out _)
        replace V10 := Lib.hid (show NB u5 _ _ _ _ from by rw [hu5]; exact V10.out.row K9.out _)
        have K10_u5 : Hid (Blk u5 g10 24 #[.bool false, .slice none 0 0]) := Lib.hid (by rw [hu5]; exact (setRow_other W g9 g10 _ (by omega)).trans K10.out)
        obtain ⟨u6, hu6⟩ : ∃ V, V = u5.setRow g10 #[.bool s10, .slice A10 n10 c10] := ⟨_, rfl⟩
        have hbu6 : Below u4.heap.size u4 u6 := by rw [hu6]; exact hbu5.grown (grown_row _ _ _) hbu5.size (fun j hj => by injection hj with hj; omega)
        have K10_u6 : Hid (Blk u6 g10 24 #[.bool s10, .slice A10 n10 c10]) := Lib.hid (by rw [hu6]; exact K10_u5.out.setRow)
        replace V9 := Lib.hid (show NB u6 _ _ _ _ from by rw [hu6]; exact V9.out.row K10_u5.out _)
        replace V10 := Lib.hid (show NB u6 _ _ _ _ from by rw [hu6]; exact V10.out.row K10_u5.out _)
        have K9_u6 : Hid (Blk u6 g9 24 #[.bool s9, .slice A9 n9 c9]) := Lib.hid (by rw [hu6]; exact (setRow_other u5 g10 g9 _ (by omega)).trans K9_u5.out)
        go_wp2_with (first | (refine wpList_store_row (o := ⟨none, _, _, _, _, _⟩) rfl 24 _ _ rfl (g9) #[.bool s9, .slice A9 n9 c9] rfl rfl 24 _ K9.out (by kernel_rfl) rfl (by simp [Value.oneCell']) ?_; rw [← hu5]) | (refine wpList_store_row (o := ⟨none, _, _, _, _, _⟩) rfl 24 _ _ rfl (g10) #[.bool s10, .slice A10 n10 c10] rfl rfl 24 _ K10_u5.out (by kernel_rfl) rfl (by simp [Value.oneCell']) ?_; rw [← hu6]))
        replace K9 := K9_u6
        replace K10 := K10_u6
        clear hu5 hu6
        clear l9
        clear l10
        clear hne
        replace K3 := Lib.hid (K3.out.below hbu6)
        replace K4 := Lib.hid (K4.out.below hbu6)
        replace K5 := Lib.hid (K5.out.below hbu6)
        replace HE := Lib.hid (HE.out.below hbu6)
        replace B0 := Lib.hid (B0.out.below hbu6)
        replace B1 := Lib.hid (B1.out.below hbu6)
        replace B2 := Lib.hid (B2.out.below hbu6)
        replace K7 := Lib.hid (K7.out.below hbu6)
        replace V7 := Lib.hid (V7.out.below hbu6)
        replace K8 := Lib.hid (K8.out.below hbu6)
        replace V8 := Lib.hid (V8.out.below hbu6)
        replace HB := Lib.hid (HB.out.trans (hbu6.mono HB.out.size))
        clear hbu6
        have k3_0 : u6.cell? ⟨w.heap.size, 0, none⟩ = some (.bool x0) := K3.out.cell 0
        have k3_1 : u6.cell? ⟨w.heap.size, 1, none⟩ = some (.slice A0 n0 c0) := K3.out.cell 1
        have k4_0 : u6.cell? ⟨w.heap.size + 1, 0, none⟩ = some (.bool x1) := K4.out.cell 0
        have k4_1 : u6.cell? ⟨w.heap.size + 1, 1, none⟩ = some (.slice A1 n1 c1) := K4.out.cell 1
        have k5_0 : u6.cell? ⟨w.heap.size + 1 + 1, 0, none⟩ = some (.bool x2) := K5.out.cell 0
        have k5_1 : u6.cell? ⟨w.heap.size + 1 + 1, 1, none⟩ = some (.slice A2 n2 c2) := K5.out.cell 1
        go_wp2_with fail
        have hS0 : Below u6.heap.size u6 u6.drew := below_drew (Below.refl _ _)
        refine wp_region_mix 18 (fun w' => Below u6.heap.size u6 w') (by kernel_rfl) (by decide) ?_
        generalize u6.drew = y0 at hS0 ⊢
        refine wpM_take (i := 0) (oi := ⟨some 59, _, _, _, _, _⟩) (v := ?_) rfl (by decide +kernel) (by decide +kernel) (by decide +kernel) (fun _ _ _ h => h) (Or.inl ⟨by rfl, ?_⟩) hS0 ?_
        case refine_2 =>
          intro w' hSw
          have k3_0' := keepcell hSw k3_0
          have k3_1' := keepcell hSw k3_1
          go_simp
          try (with_reducible rfl)
        try simp only [Act.put, List.setIfInBounds_toArray, List.set_cons_zero, List.set_cons_succ]
        refine wpM_take (i := 2) (oi := ⟨some 61, _, _, _, _, _⟩) (v := ?_) rfl (by decide +kernel) (by decide +kernel) (by decide +kernel) (fun _ _ _ h => h) (Or.inl ⟨by rfl, ?_⟩) hS0 ?_
        case refine_2 =>
          intro w' hSw
          have k4_0' := keepcell hSw k4_0
          have k4_1' := keepcell hSw k4_1
          go_simp
          try (with_reducible rfl)
        try simp only [Act.put, List.setIfInBounds_toArray, List.set_cons_zero, List.set_cons_succ]
        refine wpM_take (i := 5) (oi := ⟨some 64, _, _, _, _, _⟩) (v := ?_) rfl (by decide +kernel) (by decide +kernel) (by decide +kernel) (fun _ _ _ h => h) (Or.inl ⟨by rfl, ?_⟩) hS0 ?_
        case refine_2 =>
          intro w' hSw
          have k5_0' := keepcell hSw k5_0
          have k5_1' := keepcell hSw k5_1
          go_simp
          try (with_reducible rfl)
        try simp only [Act.put, List.setIfInBounds_toArray, List.set_cons_zero, List.set_cons_succ]
        refine wpM_take (i := 8) (oi := ⟨some 67, _, _, _, _, _⟩) (v := ?_) rfl (by decide +kernel) (by decide +kernel) (by decide +kernel) (fun _ _ _ h => h) (Or.inl ⟨by rfl, ?_⟩) hS0 ?_
        case refine_2 =>
          intro w' hSw
          have k3_0' := keepcell hSw k3_0
          have k3_1' := keepcell hSw k3_1
          go_simp
          try (with_reducible rfl)
        try simp only [Act.put, List.setIfInBounds_toArray, List.set_cons_zero, List.set_cons_succ]
        refine wpM_take (i := 10) (oi := ⟨some 69, _, _, _, _, _⟩) (v := ?_) rfl (by decide +kernel) (by decide +kernel) (by decide +kernel) (fun _ _ _ h => h) (Or.inl ⟨by rfl, ?_⟩) hS0 ?_
        case refine_2 =>
          intro w' hSw
          have k4_0' := keepcell hSw k4_0
          have k4_1' := keepcell hSw k4_1
          go_simp
          try (with_reducible rfl)
        try simp only [Act.put, List.setIfInBounds_toArray, List.set_cons_zero, List.set_cons_succ]
        refine wpM_take (i := 12) (oi := ⟨some 71, _, _, _, _, _⟩) (v := ?_) rfl (by decide +kernel) (by decide +kernel) (by decide +kernel) (fun _ _ _ h => h) (Or.inl ⟨by rfl, ?_⟩) hS0 ?_
        case refine_2 =>
          intro w' hSw
          have k5_0' := keepcell hSw k5_0
          have k5_1' := keepcell hSw k5_1
          go_simp
          try (with_reducible rfl)
        try simp only [Act.put, List.setIfInBounds_toArray, List.set_cons_zero, List.set_cons_succ]
        clear k3_0 k3_1 k4_0 k4_1 k5_0 k5_1
        refine wpM_apart (fun i => if i = 16 then 11 else if i = 17 then 12 else 59 + i) [1, 3, 4, 6, 7, 9, 11, 13, 14, 15, 16, 17] (bigintRingS4 u6.heap.size z0 z1 z2) (ap2 16 17) (by decide +kernel) (ap2_sym (by decide)) (bigintRingS4_mono u6.heap.size z0 z1 z2) hS0 ?_ ?_
        · refine List.forall_mem_cons.2 ⟨?_, List.forall_mem_cons.2 ⟨?_, List.forall_mem_cons.2 ⟨?_, List.forall_mem_cons.2 ⟨?_, List.forall_mem_cons.2 ⟨?_, List.forall_mem_cons.2 ⟨?_, List.forall_mem_cons.2 ⟨?_, List.forall_mem_cons.2 ⟨?_, List.forall_mem_cons.2 ⟨?_, List.forall_mem_cons.2 ⟨?_, List.forall_mem_cons.2 ⟨?_, List.forall_mem_cons.2 ⟨?_, List.forall_mem_nil _⟩⟩⟩⟩⟩⟩⟩⟩⟩⟩⟩⟩
          · refine ⟨⟨some 60, _, _, _, _, _⟩, rfl, rfl, fun vs W K hS hd hK => ?_⟩
            simp only [puts, List.foldl_cons, List.foldl_nil, Act.put, List.setIfInBounds_toArray, List.set_cons_zero, List.set_cons_succ, Nat.reduceAdd, Nat.reduceSub, Nat.reduceEqDiff, ↓reduceIte, reduceCtorEq] at hK ⊢
            go_simp
            refine (cp_bg W _ z0 8 (B0.out.below hS) (by decide)).mono ?_
            rintro e W' ⟨v, rfl, hv, hb⟩
            exact hK _ _ (hS.trans (hb.mono hS.size)) hb (hv.mono hS.size) (fun j h => absurd h (ap2_no (by decide) (by decide)))
          · refine ⟨⟨some 62, _, _, _, _, _⟩, rfl, rfl, fun vs W K hS hd hK => ?_⟩
            simp only [puts, List.foldl_cons, List.foldl_nil, Act.put, List.setIfInBounds_toArray, List.set_cons_zero, List.set_cons_succ, Nat.reduceAdd, Nat.reduceSub, Nat.reduceEqDiff, ↓reduceIte, reduceCtorEq] at hK ⊢
            go_simp
            refine (cp_bg W _ z1 8 (B1.out.below hS) (by decide)).mono ?_
            rintro e W' ⟨v, rfl, hv, hb⟩
            exact hK _ _ (hS.trans (hb.mono hS.size)) hb (hv.mono hS.size) (fun j h => absurd h (ap2_no (by decide) (by decide)))
          · refine ⟨⟨some 63, _, _, _, _, _⟩, rfl, rfl, fun vs W K hS hd hK => ?_⟩
            have d1 : OB W u6.heap.size (vs 1) z0 8 := hd 1 (by decide) (by decide +kernel)
            have d3 : OB W u6.heap.size (vs 3) z1 8 := hd 3 (by decide) (by decide +kernel)
            simp only [puts, List.foldl_cons, List.foldl_nil, Act.put, List.setIfInBounds_toArray, List.set_cons_zero, List.set_cons_succ, Nat.reduceAdd, Nat.reduceSub, Nat.reduceEqDiff, ↓reduceIte, reduceCtorEq] at hK ⊢
            go_simp
            refine (Mul_any _ _ (z0) (z1) 8 8 W d1.bg d3.bg (by decide) (by decide)).mono ?_
            rintro e W' ⟨v, rfl, hv, hb⟩
            exact hK _ _ (hS.trans (hb.mono hS.size)) hb (hv.mono hS.size (by decide)) (fun j h => absurd h (ap2_no (by decide) (by decide)))
          · refine ⟨⟨some 65, _, _, _, _, _⟩, rfl, rfl, fun vs W K hS hd hK => ?_⟩
            simp only [puts, List.foldl_cons, List.foldl_nil, Act.put, List.setIfInBounds_toArray, List.set_cons_zero, List.set_cons_succ, Nat.reduceAdd, Nat.reduceSub, Nat.reduceEqDiff, ↓reduceIte, reduceCtorEq] at hK ⊢
            go_simp
            refine (cp_bg W _ z2 8 (B2.out.below hS) (by decide)).mono ?_
            rintro e W' ⟨v, rfl, hv, hb⟩
            exact hK _ _ (hS.trans (hb.mono hS.size)) hb (hv.mono hS.size) (fun j h => absurd h (ap2_no (by decide) (by decide)))
          · refine ⟨⟨some 66, _, _, _, _, _⟩, rfl, rfl, fun vs W K hS hd hK => ?_⟩
            have d4 : NB W u6.heap.size (vs 4) ((z0 * z1)) 16 := hd 4 (by decide) (by decide +kernel)
            have d6 : OB W u6.heap.size (vs 6) z2 8 := hd 6 (by decide) (by decide +kernel)
            simp only [puts, List.foldl_cons, List.foldl_nil, Act.put, List.setIfInBounds_toArray, List.set_cons_zero, List.set_cons_succ, Nat.reduceAdd, Nat.reduceSub, Nat.reduceEqDiff, ↓reduceIte, reduceCtorEq] at hK ⊢
            go_simp
            refine (Mul_any _ _ ((z0 * z1)) (z2) 16 8 W d4.bg d6.bg (by decide) (by decide)).mono ?_
            rintro e W' ⟨v, rfl, hv, hb⟩
            exact hK _ _ (hS.trans (hb.mono hS.size)) hb (hv.mono hS.size (by decide)) (fun j h => absurd h (ap2_no (by decide) (by decide)))
          · refine ⟨⟨some 68, _, _, _, _, _⟩, rfl, rfl, fun vs W K hS hd hK => ?_⟩
            simp only [puts, List.foldl_cons, List.foldl_nil, Act.put, List.setIfInBounds_toArray, List.set_cons_zero, List.set_cons_succ, Nat.reduceAdd, Nat.reduceSub, Nat.reduceEqDiff, ↓reduceIte, reduceCtorEq] at hK ⊢
            go_simp
            refine (cp_bg W _ z0 8 (B0.out.below hS) (by decide)).mono ?_
            rintro e W' ⟨v, rfl, hv, hb⟩
            exact hK _ _ (hS.trans (hb.mono hS.size)) hb (hv.mono hS.size) (fun j h => absurd h (ap2_no (by decide) (by decide)))
          · refine ⟨⟨some 70, _, _, _, _, _⟩, rfl, rfl, fun vs W K hS hd hK => ?_⟩
            simp only [puts, List.foldl_cons, List.foldl_nil, Act.put, List.setIfInBounds_toArray, List.set_cons_zero, List.set_cons_succ, Nat.reduceAdd, Nat.reduceSub, Nat.reduceEqDiff, ↓reduceIte, reduceCtorEq] at hK ⊢
            go_simp
            refine (cp_bg W _ z1 8 (B1.out.below hS) (by decide)).mono ?_
            rintro e W' ⟨v, rfl, hv, hb⟩
            exact hK _ _ (hS.trans (hb.mono hS.size)) hb (hv.mono hS.size) (fun j h => absurd h (ap2_no (by decide) (by decide)))
          · refine ⟨⟨some 72, _, _, _, _, _⟩, rfl, rfl, fun vs W K hS hd hK => ?_⟩
            simp only [puts, List.foldl_cons, List.foldl_nil, Act.put, List.setIfInBounds_toArray, List.set_cons_zero, List.set_cons_succ, Nat.reduceAdd, Nat.reduceSub, Nat.reduceEqDiff, ↓reduceIte, reduceCtorEq] at hK ⊢
            go_simp
            refine (cp_bg W _ z2 8 (B2.out.below hS) (by decide)).mono ?_
            rintro e W' ⟨v, rfl, hv, hb⟩
            exact hK _ _ (hS.trans (hb.mono hS.size)) hb (hv.mono hS.size) (fun j h => absurd h (ap2_no (by decide) (by decide)))
          · refine ⟨⟨some 73, _, _, _, _, _⟩, rfl, rfl, fun vs W K hS hd hK => ?_⟩
            have d11 : OB W u6.heap.size (vs 11) z1 8 := hd 11 (by decide) (by decide +kernel)
            have d13 : OB W u6.heap.size (vs 13) z2 8 := hd 13 (by decide) (by decide +kernel)
            simp only [puts, List.foldl_cons, List.foldl_nil, Act.put, List.setIfInBounds_toArray, List.set_cons_zero, List.set_cons_succ, Nat.reduceAdd, Nat.reduceSub, Nat.reduceEqDiff, ↓reduceIte, reduceCtorEq] at hK ⊢
            go_simp
            refine (Mul_any _ _ (z1) (z2) 8 8 W d11.bg d13.bg (by decide) (by decide)).mono ?_
            rintro e W' ⟨v, rfl, hv, hb⟩
            exact hK _ _ (hS.trans (hb.mono hS.size)) hb (hv.mono hS.size (by decide)) (fun j h => absurd h (ap2_no (by decide) (by decide)))
          · refine ⟨⟨some 74, _, _, _, _, _⟩, rfl, rfl, fun vs W K hS hd hK => ?_⟩
            have d9 : OB W u6.heap.size (vs 9) z0 8 := hd 9 (by decide) (by decide +kernel)
            have d14 : NB W u6.heap.size (vs 14) ((z1 * z2)) 16 := hd 14 (by decide) (by decide +kernel)
            simp only [puts, List.foldl_cons, List.foldl_nil, Act.put, List.setIfInBounds_toArray, List.set_cons_zero, List.set_cons_succ, Nat.reduceAdd, Nat.reduceSub, Nat.reduceEqDiff, ↓reduceIte, reduceCtorEq] at hK ⊢
            go_simp
            refine (Mul_any _ _ (z0) ((z1 * z2)) 8 16 W d9.bg d14.bg (by decide) (by decide)).mono ?_
            rintro e W' ⟨v, rfl, hv, hb⟩
            exact hK _ _ (hS.trans (hb.mono hS.size)) hb (hv.mono hS.size (by decide)) (fun j h => absurd h (ap2_no (by decide) (by decide)))
          · refine ⟨⟨some 11, _, _, _, _, _⟩, rfl, rfl, fun vs W K hS hd hK => ?_⟩
            simp only [puts, List.foldl_cons, List.foldl_nil, Act.put, List.setIfInBounds_toArray, List.set_cons_zero, List.set_cons_succ, Nat.reduceAdd, Nat.reduceSub, Nat.reduceEqDiff, ↓reduceIte, reduceCtorEq] at hK ⊢
            go_simp
            exact hK _ _ (hS.alloc hS.size _) ((Below.refl _ _).alloc (Nat.le_refl _) _) (NwB.new hS.size) (fun j h u hu => by
              obtain rfl := ap2_l (by decide) h
              exact (show NwB W u6.heap.size u from hu).ne)
          · refine ⟨⟨some 12, _, _, _, _, _⟩, rfl, rfl, fun vs W K hS hd hK => ?_⟩
            simp only [puts, List.foldl_cons, List.foldl_nil, Act.put, List.setIfInBounds_toArray, List.set_cons_zero, List.set_cons_succ, Nat.reduceAdd, Nat.reduceSub, Nat.reduceEqDiff, ↓reduceIte, reduceCtorEq] at hK ⊢
            go_simp
            exact hK _ _ (hS.alloc hS.size _) ((Below.refl _ _).alloc (Nat.le_refl _) _) (NwB.new hS.size) (fun j h u hu => by
              obtain rfl := ap2_r (by decide) h
              exact (show NwB W u6.heap.size u from hu).ne)
        · intro vs W hS hd hap
          have d16 : NwB W u6.heap.size (vs 16) := hd 16 (by decide)
          have d7 : NB W u6.heap.size (vs 7) (((z0 * z1) * z2)) 24 := hd 7 (by decide)
          have d17 : NwB W u6.heap.size (vs 17) := hd 17 (by decide)
          have d15 : NB W u6.heap.size (vs 15) ((z0 * (z1 * z2))) 24 := hd 15 (by decide)
          obtain ⟨g11, e11, l11, b11⟩ := d16
          obtain ⟨s11, A11, n11, c11, q11⟩ := d7.expose
          obtain ⟨g12, e12, l12, b12⟩ := d17
          obtain ⟨s12, A12, n12, c12, q12⟩ := d15.expose
          have hne : g11 ≠ g12 := by
            intro e
            refine hap 16 (by decide) 17 (by decide) (by decide) ?_
            rw [e11, e12, e]
          clear hap
          simp only [puts, List.foldl_cons, List.foldl_nil, Act.put, List.setIfInBounds_toArray, List.set_cons_zero, List.set_cons_succ, Nat.reduceAdd, Nat.reduceSub, Nat.reduceEqDiff, ↓reduceIte, reduceCtorEq]
          simp only [e11, q11, e12, q12]
          rw [q11] at d7
          have V11 := Lib.hid d7
          have K11 := Lib.hid b11
          clear d7 b11 e11 q11
          rw [q12] at d15
          have V12 := Lib.hid d15
          have K12 := Lib.hid b12
          clear d15 b12 e12 q12
          simp only [List.drop_succ_cons, List.drop_zero]
          clear hd hS0
          obtain ⟨u7, hu7⟩ : ∃ V, V = W.setRow g11 #[.bool s11, .slice A11 n11 c11] := ⟨_, rfl⟩
          have hbu7 : Below u6.heap.size u6 u7 := by rw [hu7]; exact hS.grown (grown_row _ _ _) hS.size (fun j hj => by injection hj with hj; omega)
          have K11_u7 : Hid (Blk u7 g11 24 #[.bool s11, .slice A11 n11 c11]) := Lib.hid (by rw [hu7]; exact K11.out.setRow)
          replace V11 := Lib.hid (show NB u7 _ _ _ _ from by rw [hu7]; exact V11.out.row K11.out _)
          replace V12 := Lib.hid (show NB u7 _ _ _ _ from by rw [hu7]; exact V12.out.row K11.out _)
          have K12_u7 : Hid (Blk u7 g12 24 #[.bool false, .slice none 0 0]) := Lib.hid (by rw [hu7]; exact (setRow_other W g11 g12 _ (by omega)).trans K12.out)
          obtain ⟨u8, hu8⟩ : ∃ V, V = u7.setRow g12 #[.bool s12, .slice A12 n12 c12] := ⟨_, rfl⟩
          have hbu8 : Below u6.heap.size u6 u8 := by rw [hu8]; exact hbu7.grown (grown_row _ _ _) hbu7.size (fun j hj => by injection hj with hj; omega)
          have K12_u8 : Hid (Blk u8 g12 24 #[.bool s12, .slice A12 n12 c12]) := Lib.hid (by rw [hu8]; exact K12_u7.out.setRow)
          replace V11 := Lib.hid (show NB u8 _ _ _ _ from by rw [hu8]; exact V11.out.row K12_u7.out _)
          replace V12 := Lib.hid (show NB u8 _ _ _ _ from by rw [hu8]; exact V12.out.row K12_u7.out _)
          have K11_u8 : Hid (Blk u8 g11 24 #[.bool s11, .slice A11 n11 c11]) := Lib.hid (by rw [hu8]; exact (setRow_other u7 g12 g11 _ (by omega)).trans K11_u7.out)
          go_wp2_with (first | (refine wpList_store_row (o := ⟨none, _, _, _, _, _⟩) rfl 24 _ _ rfl (g11) #[.bool s11, .slice A11 n11 c11] rfl rfl 24 _ K11.out (by kernel_rfl) rfl (by simp [Value.oneCell']) ?_; rw [← hu7]) | (refine wpList_store_row (o := ⟨none, _, _, _, _, _⟩) rfl 24 _ _ rfl (g12) #[.bool s12, .slice A12 n12 c12] rfl rfl 24 _ K12_u7.out (by kernel_rfl) rfl (by simp [Value.oneCell']) ?_; rw [← hu8]))
          replace K11 := K11_u8
          replace K12 := K12_u8
          clear hu7 hu8
          clear l11
          clear l12
          clear hne
          replace K3 := Lib.hid (K3.out.below hbu8)
          replace K4 := Lib.hid (K4.out.below hbu8)
          replace K5 := Lib.hid (K5.out.below hbu8)
          replace HE := Lib.hid (HE.out.below hbu8)
          replace B0 := Lib.hid (B0.out.below hbu8)
          replace B1 := Lib.hid (B1.out.below hbu8)
          replace B2 := Lib.hid (B2.out.below hbu8)
          replace K7 := Lib.hid (K7.out.below hbu8)
          replace V7 := Lib.hid (V7.out.below hbu8)
          replace K8 := Lib.hid (K8.out.below hbu8)
          replace V8 := Lib.hid (V8.out.below hbu8)
          replace K9 := Lib.hid (K9.out.below hbu8)
          replace V9 := Lib.hid (V9.out.below hbu8)
          replace K10 := Lib.hid (K10.out.below hbu8)
          replace V10 := Lib.hid (V10.out.below hbu8)
          replace HB := Lib.hid (HB.out.trans (hbu8.mono HB.out.size))
          clear hbu8
          replace V7 := Lib.hid ((Int.add_mul z0 z1 z2) ▸ V7.out)
          replace V9 := Lib.hid ((Int.add_assoc z0 z1 z2) ▸ V9.out)
          replace V11 := Lib.hid ((Int.mul_assoc z0 z1 z2) ▸ V11.out)
          have k3_0 : u8.cell? ⟨w.heap.size, 0, none⟩ = some (.bool x0) := K3.out.cell 0
          have k3_1 : u8.cell? ⟨w.heap.size, 1, none⟩ = some (.slice A0 n0 c0) := K3.out.cell 1
          have k4_0 : u8.cell? ⟨w.heap.size + 1, 0, none⟩ = some (.bool x1) := K4.out.cell 0
          have k4_1 : u8.cell? ⟨w.heap.size + 1, 1, none⟩ = some (.slice A1 n1 c1) := K4.out.cell 1
          have k7_0 : u8.cell? ⟨g7, 0, none⟩ = some (.bool s7) := K7.out.cell 0
          have k7_1 : u8.cell? ⟨g7, 1, none⟩ = some (.slice A7 n7 c7) := K7.out.cell 1
          have k8_0 : u8.cell? ⟨g8, 0, none⟩ = some (.bool s8) := K8.out.cell 0
          have k8_1 : u8.cell? ⟨g8, 1, none⟩ = some (.slice A8 n8 c8) := K8.out.cell 1
          have k9_0 : u8.cell? ⟨g9, 0, none⟩ = some (.bool s9) := K9.out.cell 0
          have k9_1 : u8.cell? ⟨g9, 1, none⟩ = some (.slice A9 n9 c9) := K9.out.cell 1
          have k10_0 : u8.cell? ⟨g10, 0, none⟩ = some (.bool s10) := K10.out.cell 0
          have k10_1 : u8.cell? ⟨g10, 1, none⟩ = some (.slice A10 n10 c10) := K10.out.cell 1
          have k11_0 : u8.cell? ⟨g11, 0, none⟩ = some (.bool s11) := K11.out.cell 0
          have k11_1 : u8.cell? ⟨g11, 1, none⟩ = some (.slice A11 n11 c11) := K11.out.cell 1
          have k12_0 : u8.cell? ⟨g12, 0, none⟩ = some (.bool s12) := K12.out.cell 0
          have k12_1 : u8.cell? ⟨g12, 1, none⟩ = some (.slice A12 n12 c12) := K12.out.cell 1
          go_wp2_with fail
          have hS0 : Below u8.heap.size u8 u8.drew := below_drew (Below.refl _ _)
          refine wp_region_mix 26 (fun w' => Below u8.heap.size u8 w') (by kernel_rfl) (by decide) ?_
          generalize u8.drew = y0 at hS0 ⊢
          refine wpM_take (i := 0) (oi := ⟨some 75, _, _, _, _, _⟩) (v := ?_) rfl (by decide +kernel) (by decide +kernel) (by decide +kernel) (fun _ _ _ h => h) (Or.inl ⟨by rfl, ?_⟩) hS0 ?_
          case refine_2 =>
            intro w' hSw
            have k7_0' := keepcell hSw k7_0
            have k7_1' := keepcell hSw k7_1
            go_simp
            try (with_reducible rfl)
          try simp only [Act.put, List.setIfInBounds_toArray, List.set_cons_zero, List.set_cons_succ]
          refine wpM_take (i := 1) (oi := ⟨some 76, _, _, _, _, _⟩) (v := ?_) rfl (by decide +kernel) (by decide +kernel) (by decide +kernel) (fun _ _ _ h => h) (Or.inl ⟨by rfl, ?_⟩) hS0 ?_
          case refine_2 =>
            intro w' hSw
            have k8_0' := keepcell hSw k8_0
            have k8_1' := keepcell hSw k8_1
            go_simp
            try (with_reducible rfl)
          try simp only [Act.put, List.setIfInBounds_toArray, List.set_cons_zero, List.set_cons_succ]
          refine wpM_step (i := 2) (o := ⟨some 77, _, _, _, _, _⟩) rfl (by decide +kernel) (by decide) (fun K hK => ?_)
          go_simp
          refine (Same_nb (V7.out.below hS0) (V8.out.below hS0) (by decide)).mono ?_
          rintro e y9 ⟨rfl, hc⟩
          have hy9 : Below u8.heap.size u8 y9 := hS0.trans (hc.mono hS0.size)
          refine hK.out _ _ hy9 ?_
          clear hK K
          try simp only [Act.put, List.setIfInBounds_toArray, List.set_cons_zero, List.set_cons_succ]
          refine wpM_take (i := 3) (oi := ⟨some 78, _, _, _, _, _⟩) (v := ?_) rfl (by decide +kernel) (by decide +kernel) (by decide +kernel) (fun _ _ _ h => h) (Or.inl ⟨by rfl, ?_⟩) hy9 ?_
          case refine_2 =>
            intro w' hSw
            go_simp
            try (with_reducible rfl)
          try simp only [Act.put, List.setIfInBounds_toArray, List.set_cons_zero, List.set_cons_succ]
          refine wpM_take (i := 4) (oi := ⟨some 79, _, _, _, _, _⟩) (v := ?_) rfl (by decide +kernel) (by decide +kernel) (by decide +kernel) (fun _ _ _ h => h) (Or.inl ⟨by rfl, ?_⟩) hy9 ?_
          case refine_2 =>
            intro w' hSw
            have k9_0' := keepcell hSw k9_0
            have k9_1' := keepcell hSw k9_1
            go_simp
            try (with_reducible rfl)
          try simp only [Act.put, List.setIfInBounds_toArray, List.set_cons_zero, List.set_cons_succ]
          refine wpM_take (i := 5) (oi := ⟨some 80, _, _, _, _, _⟩) (v := ?_) rfl (by decide +kernel) (by decide +kernel) (by decide +kernel) (fun _ _ _ h => h) (Or.inl ⟨by rfl, ?_⟩) hy9 ?_
          case refine_2 =>
            intro w' hSw
            have k10_0' := keepcell hSw k10_0
            have k10_1' := keepcell hSw k10_1
            go_simp
            try (with_reducible rfl)
          try simp only [Act.put, List.setIfInBounds_toArray, List.set_cons_zero, List.set_cons_succ]
          refine wpM_step (i := 6) (o := ⟨some 81, _, _, _, _, _⟩) rfl (by decide +kernel) (by decide) (fun K hK => ?_)
          go_simp
          refine (Same_nb (V9.out.below hy9) (V10.out.below hy9) (by decide)).mono ?_
          rintro e y10 ⟨rfl, hc⟩
          have hy10 : Below u8.heap.size u8 y10 := hy9.trans (hc.mono hy9.size)
          refine hK.out _ _ hy10 ?_
          clear hK K
          try simp only [Act.put, List.setIfInBounds_toArray, List.set_cons_zero, List.set_cons_succ]
          refine wpM_take (i := 7) (oi := ⟨some 82, _, _, _, _, _⟩) (v := ?_) rfl (by decide +kernel) (by decide +kernel) (by decide +kernel) (fun _ _ _ h => h) (Or.inl ⟨by rfl, ?_⟩) hy10 ?_
          case refine_2 =>
            intro w' hSw
            go_simp
            try (with_reducible rfl)
          try simp only [Act.put, List.setIfInBounds_toArray, List.set_cons_zero, List.set_cons_succ]
          refine wpM_take (i := 8) (oi := ⟨some 83, _, _, _, _, _⟩) (v := ?_) rfl (by decide +kernel) (by decide +kernel) (by decide +kernel) (fun _ _ _ h => h) (Or.inl ⟨by rfl, ?_⟩) hy10 ?_
          case refine_2 =>
            intro w' hSw
            go_simp
            try (with_reducible rfl)
          try simp only [Act.put, List.setIfInBounds_toArray, List.set_cons_zero, List.set_cons_succ]
          refine wpM_take (i := 9) (oi := ⟨some 84, _, _, _, _, _⟩) (v := ?_) rfl (by decide +kernel) (by decide +kernel) (by decide +kernel) (fun _ _ _ h => h) (Or.inl ⟨by rfl, ?_⟩) hy10 ?_
          case refine_2 =>
            intro w' hSw
            have k11_0' := keepcell hSw k11_0
            have k11_1' := keepcell hSw k11_1
            go_simp
            try (with_reducible rfl)
          try simp only [Act.put, List.setIfInBounds_toArray, List.set_cons_zero, List.set_cons_succ]
          refine wpM_take (i := 10) (oi := ⟨some 85, _, _, _, _, _⟩) (v := ?_) rfl (by decide +kernel) (by decide +kernel) (by decide +kernel) (fun _ _ _ h => h) (Or.inl ⟨by rfl, ?_⟩) hy10 ?_
          case refine_2 =>
            intro w' hSw
            have k12_0' := keepcell hSw k12_0
            have k12_1' := keepcell hSw k12_1
            go_simp
            try (with_reducible rfl)
          try simp only [Act.put, List.setIfInBounds_toArray, List.set_cons_zero, List.set_cons_succ]
          refine wpM_step (i := 11) (o := ⟨some 86, _, _, _, _, _⟩) rfl (by decide +kernel) (by decide) (fun K hK => ?_)
          go_simp
          refine (Same_nb (V11.out.below hy10) (V12.out.below hy10) (by decide)).mono ?_
          rintro e y11 ⟨rfl, hc⟩
          have hy11 : Below u8.heap.size u8 y11 := hy10.trans (hc.mono hy10.size)
          refine hK.out _ _ hy11 ?_
          clear hK K
          try simp only [Act.put, List.setIfInBounds_toArray, List.set_cons_zero, List.set_cons_succ]
          refine wpM_take (i := 12) (oi := ⟨some 87, _, _, _, _, _⟩) (v := ?_) rfl (by decide +kernel) (by decide +kernel) (by decide +kernel) (fun _ _ _ h => h) (Or.inl ⟨by rfl, ?_⟩) hy11 ?_
          case refine_2 =>
            intro w' hSw
            go_simp
            try (with_reducible rfl)
          try simp only [Act.put, List.setIfInBounds_toArray, List.set_cons_zero, List.set_cons_succ]
          refine wpM_take (i := 13) (oi := ⟨some 88, _, _, _, _, _⟩) (v := ?_) rfl (by decide +kernel) (by decide +kernel) (by decide +kernel) (fun _ _ _ h => h) (Or.inl ⟨by rfl, ?_⟩) hy11 ?_
          case refine_2 =>
            intro w' hSw
            go_simp
            try (with_reducible rfl)
          try simp only [Act.put, List.setIfInBounds_toArray, List.set_cons_zero, List.set_cons_succ]
          refine wpM_take (i := 14) (oi := ⟨some 89, _, _, _, _, _⟩) (v := ?_) rfl (by decide +kernel) (by decide +kernel) (by decide +kernel) (fun _ _ _ h => h) (Or.inl ⟨by rfl, ?_⟩) hy11 ?_
          case refine_2 =>
            intro w' hSw
            have k3_0' := keepcell hSw k3_0
            have k3_1' := keepcell hSw k3_1
            go_simp
            try (with_reducible rfl)
          try simp only [Act.put, List.setIfInBounds_toArray, List.set_cons_zero, List.set_cons_succ]
          refine wpM_take (i := 16) (oi := ⟨some 91, _, _, _, _, _⟩) (v := ?_) rfl (by decide +kernel) (by decide +kernel) (by decide +kernel) (fun _ _ _ h => h) (Or.inl ⟨by rfl, ?_⟩) hy11 ?_
          case refine_2 =>
            intro w' hSw
            have k4_0' := keepcell hSw k4_0
            have k4_1' := keepcell hSw k4_1
            go_simp
            try (with_reducible rfl)
          try simp only [Act.put, List.setIfInBounds_toArray, List.set_cons_zero, List.set_cons_succ]
          refine wpM_take (i := 19) (oi := ⟨some 94, _, _, _, _, _⟩) (v := ?_) rfl (by decide +kernel) (by decide +kernel) (by decide +kernel) (fun _ _ _ h => h) (Or.inl ⟨by rfl, ?_⟩) hy11 ?_
          case refine_2 =>
            intro w' hSw
            have k4_0' := keepcell hSw k4_0
            have k4_1' := keepcell hSw k4_1
            go_simp
            try (with_reducible rfl)
          try simp only [Act.put, List.setIfInBounds_toArray, List.set_cons_zero, List.set_cons_succ]
          refine wpM_take (i := 21) (oi := ⟨some 96, _, _, _, _, _⟩) (v := ?_) rfl (by decide +kernel) (by decide +kernel) (by decide +kernel) (fun _ _ _ h => h) (Or.inl ⟨by rfl, ?_⟩) hy11 ?_
          case refine_2 =>
            intro w' hSw
            have k3_0' := keepcell hSw k3_0
            have k3_1' := keepcell hSw k3_1
            go_simp
            try (with_reducible rfl)
          try simp only [Act.put, List.setIfInBounds_toArray, List.set_cons_zero, List.set_cons_succ]
          refine wpM_step (i := 15) (o := ⟨some 90, _, _, _, _, _⟩) rfl (by decide +kernel) (by decide) (fun K hK => ?_)
          go_simp
          refine (cp_bg y11 _ z0 8 (B0.out.below hy11) (by decide)).mono ?_
          rintro e y12 ⟨v15, rfl, hv, hc⟩
          have hy12 : Below u8.heap.size u8 y12 := hy11.trans (hc.mono hy11.size)
          have P15 := Lib.hid hv
          clear hv
          refine hK.out _ _ hy12 ?_
          clear hK K
          try simp only [Act.put, List.setIfInBounds_toArray, List.set_cons_zero, List.set_cons_succ]
          refine wpM_step (i := 17) (o := ⟨some 92, _, _, _, _, _⟩) rfl (by decide +kernel) (by decide) (fun K hK => ?_)
          go_simp
          refine (cp_bg y12 _ z1 8 (B1.out.below hy12) (by decide)).mono ?_
          rintro e y13 ⟨v17, rfl, hv, hc⟩
          have hy13 : Below u8.heap.size u8 y13 := hy12.trans (hc.mono hy12.size)
          replace P15 := Lib.hid (P15.out.below hc)
          have P17 := Lib.hid hv
          clear hv
          refine hK.out _ _ hy13 ?_
          clear hK K
          try simp only [Act.put, List.setIfInBounds_toArray, List.set_cons_zero, List.set_cons_succ]
          refine wpM_step (i := 18) (o := ⟨some 93, _, _, _, _, _⟩) rfl (by decide +kernel) (by decide) (fun K hK => ?_)
          go_simp
          refine (Mul_any _ _ z0 z1 8 8 y13 P15.out.bg P17.out.bg (by decide) (by decide)).mono ?_
          rintro e y14 ⟨v18, rfl, hv, hc⟩
          have hy14 : Below u8.heap.size u8 y14 := hy13.trans (hc.mono hy13.size)
          replace P15 := Lib.hid (P15.out.below hc)
          replace P17 := Lib.hid (P17.out.below hc)
          have P18 := Lib.hid hv
          clear hv
          refine hK.out _ _ hy14 ?_
          clear hK K
          try simp only [Act.put, List.setIfInBounds_toArray, List.set_cons_zero, List.set_cons_succ]
          refine wpM_step (i := 20) (o := ⟨some 95, _, _, _, _, _⟩) rfl (by decide +kernel) (by decide) (fun K hK => ?_)
          go_simp
          refine (cp_bg y14 _ z1 8 (B1.out.below hy14) (by decide)).mono ?_
          rintro e y15 ⟨v20, rfl, hv, hc⟩
          have hy15 : Below u8.heap.size u8 y15 := hy14.trans (hc.mono hy14.size)
          replace P15 := Lib.hid (P15.out.below hc)
          replace P17 := Lib.hid (P17.out.below hc)
          replace P18 := Lib.hid (P18.out.below hc)
          have P20 := Lib.hid hv
          clear hv
          refine hK.out _ _ hy15 ?_
          clear hK K
          try simp only [Act.put, List.setIfInBounds_toArray, List.set_cons_zero, List.set_cons_succ]
          refine wpM_step (i := 22) (o := ⟨some 97, _, _, _, _, _⟩) rfl (by decide +kernel) (by decide) (fun K hK => ?_)
          go_simp
          refine (cp_bg y15 _ z0 8 (B0.out.below hy15) (by decide)).mono ?_
          rintro e y16 ⟨v22, rfl, hv, hc⟩
          have hy16 : Below u8.heap.size u8 y16 := hy15.trans (hc.mono hy15.size)
          replace P15 := Lib.hid (P15.out.below hc)
          replace P17 := Lib.hid (P17.out.below hc)
          replace P18 := Lib.hid (P18.out.below hc)
          replace P20 := Lib.hid (P20.out.below hc)
          have P22 := Lib.hid hv
          clear hv
          refine hK.out _ _ hy16 ?_
          clear hK K
          try simp only [Act.put, List.setIfInBounds_toArray, List.set_cons_zero, List.set_cons_succ]
          refine wpM_step (i := 23) (o := ⟨some 98, _, _, _, _, _⟩) rfl (by decide +kernel) (by decide) (fun K hK => ?_)
          go_simp
          refine (Mul_any _ _ z1 z0 8 8 y16 P20.out.bg P22.out.bg (by decide) (by decide)).mono ?_
          rintro e y17 ⟨v23, rfl, hv, hc⟩
          have hy17 : Below u8.heap.size u8 y17 := hy16.trans (hc.mono hy16.size)
          replace P15 := Lib.hid (P15.out.below hc)
          replace P17 := Lib.hid (P17.out.below hc)
          replace P18 := Lib.hid (P18.out.below hc)
          replace P20 := Lib.hid (P20.out.below hc)
          replace P22 := Lib.hid (P22.out.below hc)
          have P23 := Lib.hid hv
          clear hv
          refine hK.out _ _ hy17 ?_
          clear hK K
          try simp only [Act.put, List.setIfInBounds_toArray, List.set_cons_zero, List.set_cons_succ]
          refine wpM_step (i := 24) (o := ⟨some 99, _, _, _, _, _⟩) rfl (by decide +kernel) (by decide) (fun K hK => ?_)
          go_simp
          refine (Same_nb P18.out ((Int.mul_comm z1 z0) ▸ P23.out) (by decide)).mono ?_
          rintro e y18 ⟨rfl, hc⟩
          have hy18 : Below u8.heap.size u8 y18 := hy17.trans (hc.mono hy17.size)
          replace P15 := Lib.hid (P15.out.below hc)
          replace P17 := Lib.hid (P17.out.below hc)
          replace P18 := Lib.hid (P18.out.below hc)
          replace P20 := Lib.hid (P20.out.below hc)
          replace P22 := Lib.hid (P22.out.below hc)
          replace P23 := Lib.hid (P23.out.below hc)
          refine hK.out _ _ hy18 ?_
          clear hK K
          try simp only [Act.put, List.setIfInBounds_toArray, List.set_cons_zero, List.set_cons_succ]
          refine wpM_take (i := 25) (oi := ⟨some 100, _, _, _, _, _⟩) (v := ?_) rfl (by decide +kernel) (by decide +kernel) (by decide +kernel) (fun _ _ _ h => h) (Or.inl ⟨by rfl, ?_⟩) hy18 ?_
          case refine_2 =>
            intro w' hSw
            go_simp
            try (with_reducible rfl)
          try simp only [Act.put, List.setIfInBounds_toArray, List.set_cons_zero, List.set_cons_succ]
          refine wpM_done (by decide +kernel) ?_
          simp only [List.drop_succ_cons, List.drop_zero]
          have HF := Lib.hid (HB.out.trans (hy18.mono HB.out.size))
          go_wp2
          go_ret
          exact ⟨rfl, HF.out⟩
end Go.Proofs.YtndkcimdbidgaaaDoor
