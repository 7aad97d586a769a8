/- The walk of law BigintGCD. -/
import Derived.Test.YtndkcimdbidgaaaDoorBqi
import Derived.Test.YtndkcimdbidgaaaDoorBrs
import Derived.Test.YtndkcimdbidgaaaDoorBgc
namespace Go.Proofs.YtndkcimdbidgaaaDoor
open Go.ChangeShapes Go.WideShapes Go.ChangeAt Go.RowKit Go.ChangeMaps

theorem rem_zero {G z q r : Int} (h0 : 0 < G) (hd : G ∣ z) (h : QR z G q r) : r = 0 := by
  obtain ⟨h1, h2⟩ := h
  have h3 : G ∣ r := by
    have e : r = z - q * G := by omega
    rw [e]
    exact Int.dvd_sub hd (Int.dvd_mul_left q G)
  rcases h2 with ⟨h4, h5⟩ | ⟨h4, h5⟩
  · rcases Int.lt_or_eq_of_le h4 with h6 | h6
    · have := Int.le_of_dvd h6 h3
      omega
    · exact h6.symm
  · omega
def bigintGCDS1 (B : Nat) (z0 z1 : Int) (i : Nat) (v : Value) (W : World) : Prop :=
  match i with
  | 1 => OB W B v z0 8
  | 3 => OB W B v z1 8
  | 4 => NB W B v (((Nat.gcd z0.natAbs z1.natAbs : Nat) : Int)) 8
  | 5 => NwB W B v
  | _ => True
theorem bigintGCDS1_mono (B : Nat) (z0 z1 : Int) (i : Nat) (v : Value) (W W' : World) (h : bigintGCDS1 B z0 z1 i v W) (hb : Below W.heap.size W W') : bigintGCDS1 B z0 z1 i v W' := by
  unfold bigintGCDS1 at h ⊢
  split at h <;> first | exact h.below hb | exact h | exact (let ⟨a, b, c, d, e⟩ := h; ⟨a, b, c, d.below hb, e.below hb⟩) | trivial
set_option maxRecDepth 100000 in
set_option maxHeartbeats 4000000 in
theorem bigintGCD_walk (x0 : Bool) (A0 : Option Addr) (n0 c0 : Nat) (D0 : List Nat) (x1 : Bool) (A1 : Option Addr) (n1 c1 : Nat) (D1 : List Nat) (w : World) (k0 : DG w A0 n0 D0) (l0 : Sl A0 n0 c0) (k1 : DG w A1 n1 D1) (l1 : Sl A1 n1 c1) (hE : EnvB w) : Calls Tryd.prog 8 #[.agg #[.bool x0, .slice A0 n0 c0], .agg #[.bool x1, .slice A1 n1 c1]] w fun e w' => e = .returned (.bool true) ∧ Below w.heap.size w w' := by
  have HE := Lib.hid hE
  clear hE
  obtain ⟨w0, hw0⟩ : ∃ W, W = (w.alloc (.cells #[.bool x0, .slice A0 n0 c0] 24)).alloc (.cells #[.bool x1, .slice A1 n1 c1] 24) := ⟨_, rfl⟩
  have hb0 : Below w.heap.size w w0 := by rw [hw0]; exact (((Below.refl _ w).alloc (Nat.le_refl _) _).alloc (by first | (simp; done) | (simp; omega)) _)
  have HB := Lib.hid hb0
  replace HE := Lib.hid (HE.out.below hb0)
  have K2 := Lib.hid (show Blk w0 (w.heap.size) 24 #[.bool x0, .slice A0 n0 c0] by rw [hw0]; exact ((Blk.new _ _ _).alloc _))
  have G0 := Lib.hid (show DG w0 A0 n0 D0 from k0.below hb0)
  have L0 := Lib.hid l0
  obtain ⟨z0, hz0⟩ : ∃ z, z = sgn x0 (dv 4294967296 D0) := ⟨_, rfl⟩
  have Z0 := Lib.hid hz0
  clear hz0 k0 l0
  have K3 := Lib.hid (show Blk w0 (w.heap.size + 1) 24 #[.bool x1, .slice A1 n1 c1] by rw [hw0]; exact Blk.new_ (by simp) rfl)
  have G1 := Lib.hid (show DG w0 A1 n1 D1 from k1.below hb0)
  have L1 := Lib.hid l1
  obtain ⟨z1, hz1⟩ : ∃ z, z = sgn x1 (dv 4294967296 D1) := ⟨_, rfl⟩
  have Z1 := Lib.hid hz1
  clear hz1 k1 l1
  clear hb0
  go_enter Tryd.func8, Tryd.ntmps8
  go_wp2_with fail
  rw [← hw0]
  clear hw0
  refine (awake_any _ HE.out).mono ?_
  rintro e w1 ⟨rfl, hb⟩
  replace K2 := Lib.hid (K2.out.below hb)
  replace G0 := Lib.hid (G0.out.below hb)
  replace K3 := Lib.hid (K3.out.below hb)
  replace G1 := Lib.hid (G1.out.below hb)
  replace HE := Lib.hid (HE.out.below hb)
  replace HB := Lib.hid (HB.out.trans (hb.mono HB.out.size))
  clear hb
  have k2_0 : w1.cell? ⟨w.heap.size, 0, none⟩ = some (.bool x0) := K2.out.cell 0
  have k2_1 : w1.cell? ⟨w.heap.size, 1, none⟩ = some (.slice A0 n0 c0) := K2.out.cell 1
  have k3_0 : w1.cell? ⟨w.heap.size + 1, 0, none⟩ = some (.bool x1) := K3.out.cell 0
  have k3_1 : w1.cell? ⟨w.heap.size + 1, 1, none⟩ = some (.slice A1 n1 c1) := K3.out.cell 1
  obtain ⟨wb, hwb⟩ : ∃ W, W = w1.alloc (.cells #[.bool x0, .slice A0 n0 c0, .bool x1, .slice A1 n1 c1] 24) := ⟨_, rfl⟩
  have hbb : Below w1.heap.size w1 wb := by rw [hwb]; exact (Below.refl _ _).alloc (Nat.le_refl _) _
  have KB : Blk wb w1.heap.size 24 #[.bool x0, .slice A0 n0 c0, .bool x1, .slice A1 n1 c1] := by rw [hwb]; exact Blk.new _ _ _
  have CS := Lib.hid (small_any [(x0, A0, n0, c0), (x1, A1, n1, c1)] w1.heap.size 2 wb KB.lt (fun j v h => (KB.cell j).trans (by simpa [bigc] using h)) (by simp))
  clear KB
  go_wp2_with fail
  rw [← hwb]
  clear hwb
  clear k2_0 k2_1 k3_0 k3_1
  replace K2 := Lib.hid (K2.out.below hbb)
  replace G0 := Lib.hid (G0.out.below hbb)
  replace K3 := Lib.hid (K3.out.below hbb)
  replace G1 := Lib.hid (G1.out.below hbb)
  replace HE := Lib.hid (HE.out.below hbb)
  replace HB := Lib.hid (HB.out.trans (hbb.mono HB.out.size))
  clear hbb
  refine CS.out.mono ?_
  rintro e w2 ⟨b, rfl, hsm, hb⟩
  clear CS
  replace K2 := Lib.hid (K2.out.below hb)
  replace G0 := Lib.hid (G0.out.below hb)
  replace K3 := Lib.hid (K3.out.below hb)
  replace G1 := Lib.hid (G1.out.below hb)
  replace HE := Lib.hid (HE.out.below hb)
  replace HB := Lib.hid (HB.out.trans (hb.mono HB.out.size))
  clear hb
  have HSM := Lib.hid hsm
  clear hsm
  cases b
  · go_wp2_with fail
    refine (awake_any _ HE.out).mono ?_
    rintro e wz ⟨rfl, hb⟩
    have HBz := Lib.hid (HB.out.trans (hb.mono HB.out.size))
    clear hb
    go_wp2
    go_ret
    exact ⟨rfl, HBz.out⟩

  have h80 : n0 ≤ 8 := HSM.out rfl (x0, A0, n0, c0) (by simp)
  have h81 : n1 ≤ 8 := HSM.out rfl (x1, A1, n1, c1) (by simp)
  have B0 := Lib.hid (show BG w2 (.agg #[.bool x0, .slice A0 n0 c0]) z0 8 from ⟨x0, A0, n0, c0, D0, rfl, G0.out, L0.out, h80, Z0.out⟩)
  clear G0 L0
  have B1 := Lib.hid (show BG w2 (.agg #[.bool x1, .slice A1 n1 c1]) z1 8 from ⟨x1, A1, n1, c1, D1, rfl, G1.out, L1.out, h81, Z1.out⟩)
  clear G1 L1
  clear HSM h80 h81
  have k2_0 : w2.cell? ⟨w.heap.size, 0, none⟩ = some (.bool x0) := K2.out.cell 0
  have k2_1 : w2.cell? ⟨w.heap.size, 1, none⟩ = some (.slice A0 n0 c0) := K2.out.cell 1
  have k3_0 : w2.cell? ⟨w.heap.size + 1, 0, none⟩ = some (.bool x1) := K3.out.cell 0
  have k3_1 : w2.cell? ⟨w.heap.size + 1, 1, none⟩ = some (.slice A1 n1 c1) := K3.out.cell 1
  go_wp2_with fail
  have hS0 : Below w2.heap.size w2 w2.drew := below_drew (Below.refl _ _)
  refine wp_region_mix 6 (fun w' => Below w2.heap.size w2 w') (by kernel_rfl) (by decide) ?_
  generalize w2.drew = y0 at hS0 ⊢
  refine wpM_take (i := 0) (oi := ⟨some 22, _, _, _, _, _⟩) (v := ?_) rfl (by decide +kernel) (by decide +kernel) (by decide +kernel) (fun _ _ _ h => h) (Or.inl ⟨by rfl, ?_⟩) hS0 ?_
  case refine_2 =>
    intro w' hSw
    have k2_0' := keepcell hSw k2_0
    have k2_1' := keepcell hSw k2_1
    go_simp
    try (with_reducible rfl)
  try simp only [Act.put, List.setIfInBounds_toArray, List.set_cons_zero, List.set_cons_succ]
  refine wpM_take (i := 2) (oi := ⟨some 24, _, _, _, _, _⟩) (v := ?_) rfl (by decide +kernel) (by decide +kernel) (by decide +kernel) (fun _ _ _ h => h) (Or.inl ⟨by rfl, ?_⟩) hS0 ?_
  case refine_2 =>
    intro w' hSw
    have k3_0' := keepcell hSw k3_0
    have k3_1' := keepcell hSw k3_1
    go_simp
    try (with_reducible rfl)
  try simp only [Act.put, List.setIfInBounds_toArray, List.set_cons_zero, List.set_cons_succ]
  clear k2_0 k2_1 k3_0 k3_1
  refine wpM_apart (fun i => if i = 5 then 5 else 22 + i) [1, 3, 4, 5] (bigintGCDS1 w2.heap.size z0 z1) ap0 (by decide +kernel) (fun i j h => absurd h ap0_no) (bigintGCDS1_mono w2.heap.size z0 z1) hS0 ?_ ?_
  · refine List.forall_mem_cons.2 ⟨?_, List.forall_mem_cons.2 ⟨?_, List.forall_mem_cons.2 ⟨?_, List.forall_mem_cons.2 ⟨?_, List.forall_mem_nil _⟩⟩⟩⟩
    · refine ⟨⟨some 23, _, _, _, _, _⟩, rfl, rfl, fun vs W K hS hd hK => ?_⟩
      simp only [puts, List.foldl_cons, List.foldl_nil, Act.put, List.setIfInBounds_toArray, List.set_cons_zero, List.set_cons_succ, Nat.reduceAdd, Nat.reduceSub, Nat.reduceEqDiff, ↓reduceIte, reduceCtorEq] at hK ⊢
      go_simp
      refine (cp_bg W _ z0 8 (B0.out.below hS) (by decide)).mono ?_
      rintro e W' ⟨v, rfl, hv, hb⟩
      exact hK _ _ (hS.trans (hb.mono hS.size)) hb (hv.mono hS.size) (fun j h => absurd h ap0_no)
    · refine ⟨⟨some 25, _, _, _, _, _⟩, rfl, rfl, fun vs W K hS hd hK => ?_⟩
      simp only [puts, List.foldl_cons, List.foldl_nil, Act.put, List.setIfInBounds_toArray, List.set_cons_zero, List.set_cons_succ, Nat.reduceAdd, Nat.reduceSub, Nat.reduceEqDiff, ↓reduceIte, reduceCtorEq] at hK ⊢
      go_simp
      refine (cp_bg W _ z1 8 (B1.out.below hS) (by decide)).mono ?_
      rintro e W' ⟨v, rfl, hv, hb⟩
      exact hK _ _ (hS.trans (hb.mono hS.size)) hb (hv.mono hS.size) (fun j h => absurd h ap0_no)
    · refine ⟨⟨some 26, _, _, _, _, _⟩, rfl, rfl, fun vs W K hS hd hK => ?_⟩
      have d1 : OB W w2.heap.size (vs 1) z0 8 := hd 1 (by decide) (by decide +kernel)
      have d3 : OB W w2.heap.size (vs 3) z1 8 := hd 3 (by decide) (by decide +kernel)
      simp only [puts, List.foldl_cons, List.foldl_nil, Act.put, List.setIfInBounds_toArray, List.set_cons_zero, List.set_cons_succ, Nat.reduceAdd, Nat.reduceSub, Nat.reduceEqDiff, ↓reduceIte, reduceCtorEq] at hK ⊢
      go_simp
      refine (GCD_any (z1.natAbs + 1) (div_any _) _ _ z0 z1 8 W d1.bg d3.bg (by decide) (by omega)).mono ?_
      rintro e W' ⟨v, rfl, hv, hb⟩
      exact hK _ _ (hS.trans (hb.mono hS.size)) hb (hv.mono hS.size (by decide)) (fun j h => absurd h ap0_no)
    · refine ⟨⟨some 5, _, _, _, _, _⟩, rfl, rfl, fun vs W K hS hd hK => ?_⟩
      simp only [puts, List.foldl_cons, List.foldl_nil, Act.put, List.setIfInBounds_toArray, List.set_cons_zero, List.set_cons_succ, Nat.reduceAdd, Nat.reduceSub, Nat.reduceEqDiff, ↓reduceIte, reduceCtorEq] at hK ⊢
      go_simp
      exact hK _ _ (hS.alloc hS.size _) ((Below.refl _ _).alloc (Nat.le_refl _) _) (NwB.new hS.size) (fun j h => absurd h ap0_no)
  · intro vs W hS hd hap
    have d5 : NwB W w2.heap.size (vs 5) := hd 5 (by decide)
    have d4 : NB W w2.heap.size (vs 4) (((Nat.gcd z0.natAbs z1.natAbs : Nat) : Int)) 8 := hd 4 (by decide)
    obtain ⟨g5, e5, l5, b5⟩ := d5
    obtain ⟨s5, A5, n5, c5, q5⟩ := d4.expose
    clear hap
    simp only [puts, List.foldl_cons, List.foldl_nil, Act.put, List.setIfInBounds_toArray, List.set_cons_zero, List.set_cons_succ, Nat.reduceAdd, Nat.reduceSub, Nat.reduceEqDiff, ↓reduceIte, reduceCtorEq]
    simp only [e5, q5]
    rw [q5] at d4
    have V5 := Lib.hid d4
    have K5 := Lib.hid b5
    clear d4 b5 e5 q5
    simp only [List.drop_succ_cons, List.drop_zero]
    clear hd hS0
    obtain ⟨u3, hu3⟩ : ∃ V, V = W.setRow g5 #[.bool s5, .slice A5 n5 c5] := ⟨_, rfl⟩
    have hbu3 : Below w2.heap.size w2 u3 := by rw [hu3]; exact hS.grown (grown_row _ _ _) hS.size (fun j hj => by injection hj with hj; omega)
    have K5_u3 : Hid (Blk u3 g5 24 #[.bool s5, .slice A5 n5 c5]) := Lib.hid (by rw [hu3]; exact K5.out.setRow)
    replace V5 := Lib.hid (show NB u3 _ _ _ _ from by rw [hu3]; exact V5.out.row K5.out _)
    go_wp2_with (first | (refine wpList_store_row (o := ⟨none, _, _, _, _, _⟩) rfl 24 _ _ rfl (g5) #[.bool s5, .slice A5 n5 c5] rfl rfl 24 _ K5.out (by kernel_rfl) rfl (by simp [Value.oneCell']) ?_; rw [← hu3]))
    replace K5 := K5_u3
    clear hu3
    clear l5
    replace K2 := Lib.hid (K2.out.below hbu3)
    replace K3 := Lib.hid (K3.out.below hbu3)
    replace HE := Lib.hid (HE.out.below hbu3)
    replace B0 := Lib.hid (B0.out.below hbu3)
    replace B1 := Lib.hid (B1.out.below hbu3)
    replace HB := Lib.hid (HB.out.trans (hbu3.mono HB.out.size))
    clear hbu3
    go_upto_region 4 with fail
    have k2_0 : u3.cell? ⟨w.heap.size, 0, none⟩ = some (.bool x0) := K2.out.cell 0
    have k2_1 : u3.cell? ⟨w.heap.size, 1, none⟩ = some (.slice A0 n0 c0) := K2.out.cell 1
    have k3_0 : u3.cell? ⟨w.heap.size + 1, 0, none⟩ = some (.bool x1) := K3.out.cell 0
    have k3_1 : u3.cell? ⟨w.heap.size + 1, 1, none⟩ = some (.slice A1 n1 c1) := K3.out.cell 1
    have k5_0 : u3.cell? ⟨g5, 0, none⟩ = some (.bool s5) := K5.out.cell 0
    have k5_1 : u3.cell? ⟨g5, 1, none⟩ = some (.slice A5 n5 c5) := K5.out.cell 1
    have hS0 : Below u3.heap.size u3 u3.drew := below_drew (Below.refl _ _)
    refine wp_region_mix 5 (fun w' => Below u3.heap.size u3 w') (by kernel_rfl) (by decide) ?_
    generalize u3.drew = y0 at hS0 ⊢
    refine wpM_take (i := 0) (oi := ⟨some 27, _, _, _, _, _⟩) (v := ?_) rfl (by decide +kernel) (by decide +kernel) (by decide +kernel) (fun _ _ _ h => h) (Or.inl ⟨by rfl, ?_⟩) hS0 ?_
    case refine_2 =>
      intro w' hSw
      have k5_0' := keepcell hSw k5_0
      have k5_1' := keepcell hSw k5_1
      go_simp
      try (with_reducible rfl)
    try simp only [Act.put, List.setIfInBounds_toArray, List.set_cons_zero, List.set_cons_succ]
    refine wpM_take (i := 1) (oi := ⟨some 28, _, _, _, _, _⟩) (v := ?_) rfl (by decide +kernel) (by decide +kernel) (by decide +kernel) (fun _ _ _ h => h) (Or.inl ⟨by rfl, ?_⟩) hS0 ?_
    case refine_2 =>
      intro w' hSw
      have k2_0' := keepcell hSw k2_0
      have k2_1' := keepcell hSw k2_1
      go_simp
      try (with_reducible rfl)
    try simp only [Act.put, List.setIfInBounds_toArray, List.set_cons_zero, List.set_cons_succ]
    refine wpM_take (i := 2) (oi := ⟨some 29, _, _, _, _, _⟩) (v := ?_) rfl (by decide +kernel) (by decide +kernel) (by decide +kernel) (fun _ _ _ h => h) (Or.inl ⟨by rfl, ?_⟩) hS0 ?_
    case refine_2 =>
      intro w' hSw
      have k3_0' := keepcell hSw k3_0
      have k3_1' := keepcell hSw k3_1
      go_simp
      try (with_reducible rfl)
    try simp only [Act.put, List.setIfInBounds_toArray, List.set_cons_zero, List.set_cons_succ]
    refine wpM_step (i := 3) (o := ⟨some 30, _, _, _, _, _⟩) rfl (by decide +kernel) (by decide) (fun K hK => ?_)
    go_simp
    refine (RGCD_any _ _ z0 z1 8 y0 (B0.out.below hS0) (B1.out.below hS0) (by decide)).mono ?_
    rintro e y4 ⟨v30, rfl, hv, hc⟩
    have hy4 : Below u3.heap.size u3 y4 := hS0.trans (hc.mono hS0.size)
    have P30 := Lib.hid hv
    clear hv
    refine hK.out _ _ hy4 ?_
    clear hK K
    try simp only [Act.put, List.setIfInBounds_toArray, List.set_cons_zero, List.set_cons_succ]
    refine wpM_step (i := 4) (o := ⟨some 31, _, _, _, _, _⟩) rfl (by decide +kernel) (by decide) (fun K hK => ?_)
    go_simp
    refine (Same_nb (V5.out.below hy4) P30.out (by decide)).mono ?_
    rintro e y5 ⟨rfl, hc⟩
    have hy5 : Below u3.heap.size u3 y5 := hy4.trans (hc.mono hy4.size)
    replace P30 := Lib.hid (P30.out.below hc)
    refine hK.out _ _ hy5 ?_
    clear hK K
    try simp only [Act.put, List.setIfInBounds_toArray, List.set_cons_zero, List.set_cons_succ]
    refine wpM_done (by decide +kernel) ?_
    simp only [List.drop_succ_cons, List.drop_zero]
    clear k2_0 k2_1 k3_0 k3_1 k5_0 k5_1
    have hb := hy5
    replace K2 := Lib.hid (K2.out.below hb)
    replace K3 := Lib.hid (K3.out.below hb)
    replace HE := Lib.hid (HE.out.below hb)
    replace B0 := Lib.hid (B0.out.below hb)
    replace B1 := Lib.hid (B1.out.below hb)
    replace K5 := Lib.hid (K5.out.below hb)
    replace V5 := Lib.hid (V5.out.below hb)
    replace HB := Lib.hid (HB.out.trans (hb.mono HB.out.size))
    clear hb
    clear P30
    obtain ⟨G, hG⟩ : ∃ G, ((Nat.gcd z0.natAbs z1.natAbs : Nat) : Int) = G := ⟨_, rfl⟩
    rw [hG] at V5
    have HG := Lib.hid hG
    clear hG
    obtain ⟨q, r, okb, hq⟩ := ok_of z0 G
    have HQ := Lib.hid hq
    clear hq
    have k2_0 : y5.cell? ⟨w.heap.size, 0, none⟩ = some (.bool x0) := K2.out.cell 0
    have k2_1 : y5.cell? ⟨w.heap.size, 1, none⟩ = some (.slice A0 n0 c0) := K2.out.cell 1
    have k5_0 : y5.cell? ⟨g5, 0, none⟩ = some (.bool s5) := K5.out.cell 0
    have k5_1 : y5.cell? ⟨g5, 1, none⟩ = some (.slice A5 n5 c5) := K5.out.cell 1
    go_wp2_with fail
    have hS0 : Below y5.heap.size y5 y5.drew := below_drew (Below.refl _ _)
    refine wp_region_mix 13 (fun w' => Below y5.heap.size y5 w') (by kernel_rfl) (by decide) ?_
    generalize y5.drew = y0 at hS0 ⊢
    refine wpM_take (i := 0) (oi := ⟨some 34, _, _, _, _, _⟩) (v := ?_) rfl (by decide +kernel) (by decide +kernel) (by decide +kernel) (fun _ _ _ h => h) (Or.inl ⟨by rfl, ?_⟩) hS0 ?_
    case refine_2 =>
      intro w' hSw
      have k2_0' := keepcell hSw k2_0
      have k2_1' := keepcell hSw k2_1
      go_simp
      try (with_reducible rfl)
    try simp only [Act.put, List.setIfInBounds_toArray, List.set_cons_zero, List.set_cons_succ]
    refine wpM_take (i := 2) (oi := ⟨some 36, _, _, _, _, _⟩) (v := ?_) rfl (by decide +kernel) (by decide +kernel) (by decide +kernel) (fun _ _ _ h => h) (Or.inl ⟨by rfl, ?_⟩) hS0 ?_
    case refine_2 =>
      intro w' hSw
      have k5_0' := keepcell hSw k5_0
      have k5_1' := keepcell hSw k5_1
      go_simp
      try (with_reducible rfl)
    try simp only [Act.put, List.setIfInBounds_toArray, List.set_cons_zero, List.set_cons_succ]
    clear k2_0 k2_1 k5_0 k5_1
    refine wpM_inv2 (fun i => if i = 1 then 35 else if i = 3 then 37 else if i = 4 then 38 else if i = 5 then 33 else if i = 6 then 39 else if i = 7 then 40 else if i = 8 then 41 else if i = 9 then 6 else if i = 10 then 7 else if i = 11 then 1000 else if i = 12 then 1001 else 2000) [1, 3, 4, 5, 6, 7, 8, 9, 10, 11, 12] (TI y5 z0 G q r okb) (by decide +kernel) (fun _ _ _ h => h.below) (TI.start hS0) ?_ ?_
    · refine List.forall_mem_cons.2 ⟨?_, List.forall_mem_cons.2 ⟨?_, List.forall_mem_cons.2 ⟨?_, List.forall_mem_cons.2 ⟨?_, List.forall_mem_cons.2 ⟨?_, List.forall_mem_cons.2 ⟨?_, List.forall_mem_cons.2 ⟨?_, List.forall_mem_cons.2 ⟨?_, List.forall_mem_cons.2 ⟨?_, List.forall_mem_cons.2 ⟨?_, List.forall_mem_cons.2 ⟨?_, List.forall_mem_nil _⟩⟩⟩⟩⟩⟩⟩⟩⟩⟩⟩
      · refine ⟨⟨some 35, _, _, _, _, _⟩, rfl, Or.inl rfl, fun d vs W K hI hdi hd hK => ?_⟩
        simp only [puts, List.foldl_cons, List.foldl_nil, Act.put, List.setIfInBounds_toArray, List.set_cons_zero, List.set_cons_succ, Nat.reduceAdd, Nat.reduceSub, Nat.reduceEqDiff, ↓reduceIte, reduceCtorEq] at hK ⊢
        go_simp
        refine (cp_bg W _ z0 8 (B0.out.below hI.below) (by decide)).mono ?_
        rintro e W' ⟨v, rfl, hv, hb⟩
        exact hK _ _ ((hI.grow hb).put1 hdi (hv.mono hI.below.size))
      · refine ⟨⟨some 37, _, _, _, _, _⟩, rfl, Or.inl rfl, fun d vs W K hI hdi hd hK => ?_⟩
        simp only [puts, List.foldl_cons, List.foldl_nil, Act.put, List.setIfInBounds_toArray, List.set_cons_zero, List.set_cons_succ, Nat.reduceAdd, Nat.reduceSub, Nat.reduceEqDiff, ↓reduceIte, reduceCtorEq] at hK ⊢
        go_simp
        refine (cp_bg W _ G 8 ((V5.out.below hI.below).bg) (by decide)).mono ?_
        rintro e W' ⟨v, rfl, hv, hb⟩
        exact hK _ _ ((hI.grow hb).put3 hdi (hv.mono hI.below.size))
      · refine ⟨⟨some 38, _, _, _, _, _⟩, rfl, Or.inl rfl, fun d vs W K hI hdi hd hK => ?_⟩
        have dd1 := hd 1 (by decide) (by decide +kernel)
        have dd3 := hd 3 (by decide) (by decide +kernel)
        simp only [puts, List.foldl_cons, List.foldl_nil, Act.put, List.setIfInBounds_toArray, List.set_cons_zero, List.set_cons_succ, Nat.reduceAdd, Nat.reduceSub, Nat.reduceEqDiff, ↓reduceIte, reduceCtorEq] at hK ⊢
        go_simp
        refine (DivFloor_tu y5 _ _ z0 G q r okb W hI.below.size (hI.c1 dd1).bg (hI.c3 dd3).bg HQ.out).mono ?_
        rintro e W' ⟨⟨v, rfl, hv⟩, hb⟩
        exact hK _ _ ((hI.grow hb).put4 hdi hv)
      · refine ⟨⟨some 33, _, _, _, _, _⟩, rfl, Or.inl rfl, fun d vs W K hI hdi hd hK => ?_⟩
        have dd4 := hd 4 (by decide) (by decide +kernel)
        have T4 := hI.t4 dd4
        clear hd
        simp only [puts, List.foldl_cons, List.foldl_nil, Act.put, List.setIfInBounds_toArray, List.set_cons_zero, List.set_cons_succ, Nat.reduceAdd, Nat.reduceSub, Nat.reduceEqDiff, ↓reduceIte, reduceCtorEq] at hK ⊢
        obtain ⟨vq, vr, e4, f1, f2⟩ := T4
        simp only [e4] at hK ⊢
        go_simp
        exact hK _ _ (hI.put5 hdi ⟨vq, vr, rfl, f1, f2⟩)
      · refine ⟨⟨some 39, _, _, _, _, _⟩, rfl, Or.inl rfl, fun d vs W K hI hdi hd hK => ?_⟩
        have dd5 := hd 5 (by decide) (by decide +kernel)
        have T5 := hI.t5 dd5
        clear hd
        simp only [puts, List.foldl_cons, List.foldl_nil, Act.put, List.setIfInBounds_toArray, List.set_cons_zero, List.set_cons_succ, Nat.reduceAdd, Nat.reduceSub, Nat.reduceEqDiff, ↓reduceIte, reduceCtorEq] at hK ⊢
        obtain ⟨vq, vr, e5, f1, f2⟩ := T5
        simp only [e5] at hK ⊢
        go_simp
        exact hK _ _ (hI.put6 hdi f1)
      · refine ⟨⟨some 40, _, _, _, _, _⟩, rfl, Or.inl rfl, fun d vs W K hI hdi hd hK => ?_⟩
        have dd5 := hd 5 (by decide) (by decide +kernel)
        have T5 := hI.t5 dd5
        clear hd
        simp only [puts, List.foldl_cons, List.foldl_nil, Act.put, List.setIfInBounds_toArray, List.set_cons_zero, List.set_cons_succ, Nat.reduceAdd, Nat.reduceSub, Nat.reduceEqDiff, ↓reduceIte, reduceCtorEq] at hK ⊢
        obtain ⟨vq, vr, e5, f1, f2⟩ := T5
        simp only [e5] at hK ⊢
        go_simp
        exact hK _ _ (hI.put7 hdi f2)
      · refine ⟨⟨some 41, _, _, _, _, _⟩, rfl, Or.inl rfl, fun d vs W K hI hdi hd hK => ?_⟩
        have dd5 := hd 5 (by decide) (by decide +kernel)
        have T5 := hI.t5 dd5
        clear hd
        simp only [puts, List.foldl_cons, List.foldl_nil, Act.put, List.setIfInBounds_toArray, List.set_cons_zero, List.set_cons_succ, Nat.reduceAdd, Nat.reduceSub, Nat.reduceEqDiff, ↓reduceIte, reduceCtorEq] at hK ⊢
        obtain ⟨vq, vr, e5, f1, f2⟩ := T5
        simp only [e5] at hK ⊢
        go_simp
        exact hK _ _ (hI.put8 hdi rfl)
      · refine ⟨⟨some 6, _, _, _, _, _⟩, rfl, Or.inl rfl, fun d vs W K hI hdi hd hK => ?_⟩
        simp only [puts, List.foldl_cons, List.foldl_nil, Act.put, List.setIfInBounds_toArray, List.set_cons_zero, List.set_cons_succ, Nat.reduceAdd, Nat.reduceSub, Nat.reduceEqDiff, ↓reduceIte, reduceCtorEq] at hK ⊢
        go_simp
        exact hK _ _ ((hI.grow ((Below.refl _ _).alloc (Nat.le_refl _) _)).put9 hdi ⟨_, _, _, _, _, rfl, hI.below.size, Blk.new _ _ _, fun e => by cases e⟩ (fun e => (hI.a10 e).lt.symm))
      · refine ⟨⟨some 7, _, _, _, _, _⟩, rfl, Or.inl rfl, fun d vs W K hI hdi hd hK => ?_⟩
        simp only [puts, List.foldl_cons, List.foldl_nil, Act.put, List.setIfInBounds_toArray, List.set_cons_zero, List.set_cons_succ, Nat.reduceAdd, Nat.reduceSub, Nat.reduceEqDiff, ↓reduceIte, reduceCtorEq] at hK ⊢
        go_simp
        exact hK _ _ ((hI.grow ((Below.refl _ _).alloc (Nat.le_refl _) _)).put10 hdi ⟨_, _, _, _, _, rfl, hI.below.size, Blk.new _ _ _, fun e => by cases e⟩ (fun e => (hI.a9 e).lt))
      · refine ⟨⟨none, _, _, _, _, _⟩, rfl, Or.inr ⟨rfl, by first | decide | simp⟩, fun d vs W K hI hdi hd hK => ?_⟩
        have dd9 := hd 9 (by decide) (by decide +kernel)
        have dd6 := hd 6 (by decide) (by decide +kernel)
        have T1 := hI.a9 dd9
        have T2 := (hI.e6 dd6).1
        clear hd
        simp only [puts, List.foldl_cons, List.foldl_nil, Act.put, List.setIfInBounds_toArray, List.set_cons_zero, List.set_cons_succ, Nat.reduceAdd, Nat.reduceSub, Nat.reduceEqDiff, ↓reduceIte, reduceCtorEq] at hK ⊢
        obtain ⟨g, s, A, n, c, e9, hg, hk, _⟩ := T1
        obtain ⟨s', A', n', c', e6⟩ := T2
        simp only [e9, e6] at hK ⊢
        rw [if_pos (show Region.wanted _ _ = true from rfl)]
        refine wp_store_row 24 _ _ rfl g #[.bool s', .slice A' n' c'] rfl rfl 24 _ hk (by kernel_rfl) rfl (by simp [Value.oneCell']) ?_
        exact hK undef _ (hI.sto11 dd9 dd6 e9 hg hk e6)
      · refine ⟨⟨none, _, _, _, _, _⟩, rfl, Or.inr ⟨rfl, by first | decide | simp⟩, fun d vs W K hI hdi hd hK => ?_⟩
        have dd10 := hd 10 (by decide) (by decide +kernel)
        have dd7 := hd 7 (by decide) (by decide +kernel)
        have T1 := hI.a10 dd10
        have T2 := (hI.e7 dd7).1
        clear hd
        simp only [puts, List.foldl_cons, List.foldl_nil, Act.put, List.setIfInBounds_toArray, List.set_cons_zero, List.set_cons_succ, Nat.reduceAdd, Nat.reduceSub, Nat.reduceEqDiff, ↓reduceIte, reduceCtorEq] at hK ⊢
        obtain ⟨g, s, A, n, c, e10, hg, hk, _⟩ := T1
        obtain ⟨s', A', n', c', e7⟩ := T2
        simp only [e10, e7] at hK ⊢
        rw [if_pos (show Region.wanted _ _ = true from rfl)]
        refine wp_store_row 24 _ _ rfl g #[.bool s', .slice A' n' c'] rfl rfl 24 _ hk (by kernel_rfl) rfl (by simp [Value.oneCell']) ?_
        exact hK undef _ (hI.sto12 dd10 dd7 e10 hg hk e7)
    · intro d vs Wp hd hI
      have hS := hI.below
      simp only [puts, List.foldl_cons, List.foldl_nil, Act.put, List.setIfInBounds_toArray, List.set_cons_zero, List.set_cons_succ, Nat.reduceAdd, Nat.reduceSub, Nat.reduceEqDiff, ↓reduceIte, reduceCtorEq]
      have T6 := hI.a9 (hd 9 (by decide))
      obtain ⟨g6, s6, A6, n6, c6, e6, l6, b6, q6⟩ := T6
      replace q6 := q6 (hd 11 (by decide))
      have V6 := hI.e6 (hd 6 (by decide))
      rw [q6] at V6
      replace V6 := Lib.hid V6
      have K6 := Lib.hid b6
      clear b6 l6
      have T7 := hI.a10 (hd 10 (by decide))
      obtain ⟨g7, s7, A7, n7, c7, e7, l7, b7, q7⟩ := T7
      replace q7 := q7 (hd 12 (by decide))
      have V7 := hI.e7 (hd 7 (by decide))
      rw [q7] at V7
      replace V7 := Lib.hid V7
      have K7 := Lib.hid b7
      clear b7 l7
      have d8 := hI.e8 (hd 8 (by decide))
      simp only [e6, e7, q6, q7, d8]
      clear d8 e6 e7 q6 q7 hd hI hS0
      simp only [List.drop_succ_cons, List.drop_zero]
      replace K2 := Lib.hid (K2.out.below hS)
      replace K3 := Lib.hid (K3.out.below hS)
      replace HE := Lib.hid (HE.out.below hS)
      replace B0 := Lib.hid (B0.out.below hS)
      replace B1 := Lib.hid (B1.out.below hS)
      replace K5 := Lib.hid (K5.out.below hS)
      replace V5 := Lib.hid (V5.out.below hS)
      replace HB := Lib.hid (HB.out.trans (hS.mono HB.out.size))
      clear hS
      obtain ⟨q2, r2, okb2, hq⟩ := ok_of z1 G
      have HQ2 := Lib.hid hq
      clear hq
      have k3_0 : Wp.cell? ⟨w.heap.size + 1, 0, none⟩ = some (.bool x1) := K3.out.cell 0
      have k3_1 : Wp.cell? ⟨w.heap.size + 1, 1, none⟩ = some (.slice A1 n1 c1) := K3.out.cell 1
      have k5_0 : Wp.cell? ⟨g5, 0, none⟩ = some (.bool s5) := K5.out.cell 0
      have k5_1 : Wp.cell? ⟨g5, 1, none⟩ = some (.slice A5 n5 c5) := K5.out.cell 1
      go_wp2_with fail
      have hS0 : Below Wp.heap.size Wp Wp.drew := below_drew (Below.refl _ _)
      refine wp_region_mix 13 (fun w' => Below Wp.heap.size Wp w') (by kernel_rfl) (by decide) ?_
      generalize Wp.drew = y0 at hS0 ⊢
      refine wpM_take (i := 0) (oi := ⟨some 43, _, _, _, _, _⟩) (v := ?_) rfl (by decide +kernel) (by decide +kernel) (by decide +kernel) (fun _ _ _ h => h) (Or.inl ⟨by rfl, ?_⟩) hS0 ?_
      case refine_2 =>
        intro w' hSw
        have k3_0' := keepcell hSw k3_0
        have k3_1' := keepcell hSw k3_1
        go_simp
        try (with_reducible rfl)
      try simp only [Act.put, List.setIfInBounds_toArray, List.set_cons_zero, List.set_cons_succ]
      refine wpM_take (i := 2) (oi := ⟨some 45, _, _, _, _, _⟩) (v := ?_) rfl (by decide +kernel) (by decide +kernel) (by decide +kernel) (fun _ _ _ h => h) (Or.inl ⟨by rfl, ?_⟩) hS0 ?_
      case refine_2 =>
        intro w' hSw
        have k5_0' := keepcell hSw k5_0
        have k5_1' := keepcell hSw k5_1
        go_simp
        try (with_reducible rfl)
      try simp only [Act.put, List.setIfInBounds_toArray, List.set_cons_zero, List.set_cons_succ]
      clear k3_0 k3_1 k5_0 k5_1
      refine wpM_inv2 (fun i => if i = 1 then 44 else if i = 3 then 46 else if i = 4 then 47 else if i = 5 then 42 else if i = 6 then 48 else if i = 7 then 49 else if i = 8 then 50 else if i = 9 then 9 else if i = 10 then 10 else if i = 11 then 1000 else if i = 12 then 1001 else 2000) [1, 3, 4, 5, 6, 7, 8, 9, 10, 11, 12] (TI Wp z1 G q2 r2 okb2) (by decide +kernel) (fun _ _ _ h => h.below) (TI.start hS0) ?_ ?_
      · refine List.forall_mem_cons.2 ⟨?_, List.forall_mem_cons.2 ⟨?_, List.forall_mem_cons.2 ⟨?_, List.forall_mem_cons.2 ⟨?_, List.forall_mem_cons.2 ⟨?_, List.forall_mem_cons.2 ⟨?_, List.forall_mem_cons.2 ⟨?_, List.forall_mem_cons.2 ⟨?_, List.forall_mem_cons.2 ⟨?_, List.forall_mem_cons.2 ⟨?_, List.forall_mem_cons.2 ⟨?_, List.forall_mem_nil _⟩⟩⟩⟩⟩⟩⟩⟩⟩⟩⟩
        · refine ⟨⟨some 44, _, _, _, _, _⟩, rfl, Or.inl rfl, fun d vs W K hI hdi hd hK => ?_⟩
          simp only [puts, List.foldl_cons, List.foldl_nil, Act.put, List.setIfInBounds_toArray, List.set_cons_zero, List.set_cons_succ, Nat.reduceAdd, Nat.reduceSub, Nat.reduceEqDiff, ↓reduceIte, reduceCtorEq] at hK ⊢
          go_simp
          refine (cp_bg W _ z1 8 (B1.out.below hI.below) (by decide)).mono ?_
          rintro e W' ⟨v, rfl, hv, hb⟩
          exact hK _ _ ((hI.grow hb).put1 hdi (hv.mono hI.below.size))
        · refine ⟨⟨some 46, _, _, _, _, _⟩, rfl, Or.inl rfl, fun d vs W K hI hdi hd hK => ?_⟩
          simp only [puts, List.foldl_cons, List.foldl_nil, Act.put, List.setIfInBounds_toArray, List.set_cons_zero, List.set_cons_succ, Nat.reduceAdd, Nat.reduceSub, Nat.reduceEqDiff, ↓reduceIte, reduceCtorEq] at hK ⊢
          go_simp
          refine (cp_bg W _ G 8 ((V5.out.below hI.below).bg) (by decide)).mono ?_
          rintro e W' ⟨v, rfl, hv, hb⟩
          exact hK _ _ ((hI.grow hb).put3 hdi (hv.mono hI.below.size))
        · refine ⟨⟨some 47, _, _, _, _, _⟩, rfl, Or.inl rfl, fun d vs W K hI hdi hd hK => ?_⟩
          have dd1 := hd 1 (by decide) (by decide +kernel)
          have dd3 := hd 3 (by decide) (by decide +kernel)
          simp only [puts, List.foldl_cons, List.foldl_nil, Act.put, List.setIfInBounds_toArray, List.set_cons_zero, List.set_cons_succ, Nat.reduceAdd, Nat.reduceSub, Nat.reduceEqDiff, ↓reduceIte, reduceCtorEq] at hK ⊢
          go_simp
          refine (DivFloor_tu Wp _ _ z1 G q2 r2 okb2 W hI.below.size (hI.c1 dd1).bg (hI.c3 dd3).bg HQ2.out).mono ?_
          rintro e W' ⟨⟨v, rfl, hv⟩, hb⟩
          exact hK _ _ ((hI.grow hb).put4 hdi hv)
        · refine ⟨⟨some 42, _, _, _, _, _⟩, rfl, Or.inl rfl, fun d vs W K hI hdi hd hK => ?_⟩
          have dd4 := hd 4 (by decide) (by decide +kernel)
          have T4 := hI.t4 dd4
          clear hd
          simp only [puts, List.foldl_cons, List.foldl_nil, Act.put, List.setIfInBounds_toArray, List.set_cons_zero, List.set_cons_succ, Nat.reduceAdd, Nat.reduceSub, Nat.reduceEqDiff, ↓reduceIte, reduceCtorEq] at hK ⊢
          obtain ⟨vq, vr, e4, f1, f2⟩ := T4
          simp only [e4] at hK ⊢
          go_simp
          exact hK _ _ (hI.put5 hdi ⟨vq, vr, rfl, f1, f2⟩)
        · refine ⟨⟨some 48, _, _, _, _, _⟩, rfl, Or.inl rfl, fun d vs W K hI hdi hd hK => ?_⟩
          have dd5 := hd 5 (by decide) (by decide +kernel)
          have T5 := hI.t5 dd5
          clear hd
          simp only [puts, List.foldl_cons, List.foldl_nil, Act.put, List.setIfInBounds_toArray, List.set_cons_zero, List.set_cons_succ, Nat.reduceAdd, Nat.reduceSub, Nat.reduceEqDiff, ↓reduceIte, reduceCtorEq] at hK ⊢
          obtain ⟨vq, vr, e5, f1, f2⟩ := T5
          simp only [e5] at hK ⊢
          go_simp
          exact hK _ _ (hI.put6 hdi f1)
        · refine ⟨⟨some 49, _, _, _, _, _⟩, rfl, Or.inl rfl, fun d vs W K hI hdi hd hK => ?_⟩
          have dd5 := hd 5 (by decide) (by decide +kernel)
          have T5 := hI.t5 dd5
          clear hd
          simp only [puts, List.foldl_cons, List.foldl_nil, Act.put, List.setIfInBounds_toArray, List.set_cons_zero, List.set_cons_succ, Nat.reduceAdd, Nat.reduceSub, Nat.reduceEqDiff, ↓reduceIte, reduceCtorEq] at hK ⊢
          obtain ⟨vq, vr, e5, f1, f2⟩ := T5
          simp only [e5] at hK ⊢
          go_simp
          exact hK _ _ (hI.put7 hdi f2)
        · refine ⟨⟨some 50, _, _, _, _, _⟩, rfl, Or.inl rfl, fun d vs W K hI hdi hd hK => ?_⟩
          have dd5 := hd 5 (by decide) (by decide +kernel)
          have T5 := hI.t5 dd5
          clear hd
          simp only [puts, List.foldl_cons, List.foldl_nil, Act.put, List.setIfInBounds_toArray, List.set_cons_zero, List.set_cons_succ, Nat.reduceAdd, Nat.reduceSub, Nat.reduceEqDiff, ↓reduceIte, reduceCtorEq] at hK ⊢
          obtain ⟨vq, vr, e5, f1, f2⟩ := T5
          simp only [e5] at hK ⊢
          go_simp
          exact hK _ _ (hI.put8 hdi rfl)
        · refine ⟨⟨some 9, _, _, _, _, _⟩, rfl, Or.inl rfl, fun d vs W K hI hdi hd hK => ?_⟩
          simp only [puts, List.foldl_cons, List.foldl_nil, Act.put, List.setIfInBounds_toArray, List.set_cons_zero, List.set_cons_succ, Nat.reduceAdd, Nat.reduceSub, Nat.reduceEqDiff, ↓reduceIte, reduceCtorEq] at hK ⊢
          go_simp
          exact hK _ _ ((hI.grow ((Below.refl _ _).alloc (Nat.le_refl _) _)).put9 hdi ⟨_, _, _, _, _, rfl, hI.below.size, Blk.new _ _ _, fun e => by cases e⟩ (fun e => (hI.a10 e).lt.symm))
        · refine ⟨⟨some 10, _, _, _, _, _⟩, rfl, Or.inl rfl, fun d vs W K hI hdi hd hK => ?_⟩
          simp only [puts, List.foldl_cons, List.foldl_nil, Act.put, List.setIfInBounds_toArray, List.set_cons_zero, List.set_cons_succ, Nat.reduceAdd, Nat.reduceSub, Nat.reduceEqDiff, ↓reduceIte, reduceCtorEq] at hK ⊢
          go_simp
          exact hK _ _ ((hI.grow ((Below.refl _ _).alloc (Nat.le_refl _) _)).put10 hdi ⟨_, _, _, _, _, rfl, hI.below.size, Blk.new _ _ _, fun e => by cases e⟩ (fun e => (hI.a9 e).lt))
        · refine ⟨⟨none, _, _, _, _, _⟩, rfl, Or.inr ⟨rfl, by first | decide | simp⟩, fun d vs W K hI hdi hd hK => ?_⟩
          have dd9 := hd 9 (by decide) (by decide +kernel)
          have dd6 := hd 6 (by decide) (by decide +kernel)
          have T1 := hI.a9 dd9
          have T2 := (hI.e6 dd6).1
          clear hd
          simp only [puts, List.foldl_cons, List.foldl_nil, Act.put, List.setIfInBounds_toArray, List.set_cons_zero, List.set_cons_succ, Nat.reduceAdd, Nat.reduceSub, Nat.reduceEqDiff, ↓reduceIte, reduceCtorEq] at hK ⊢
          obtain ⟨g, s, A, n, c, e9, hg, hk, _⟩ := T1
          obtain ⟨s', A', n', c', e6⟩ := T2
          simp only [e9, e6] at hK ⊢
          rw [if_pos (show Region.wanted _ _ = true from rfl)]
          refine wp_store_row 24 _ _ rfl g #[.bool s', .slice A' n' c'] rfl rfl 24 _ hk (by kernel_rfl) rfl (by simp [Value.oneCell']) ?_
          exact hK undef _ (hI.sto11 dd9 dd6 e9 hg hk e6)
        · refine ⟨⟨none, _, _, _, _, _⟩, rfl, Or.inr ⟨rfl, by first | decide | simp⟩, fun d vs W K hI hdi hd hK => ?_⟩
          have dd10 := hd 10 (by decide) (by decide +kernel)
          have dd7 := hd 7 (by decide) (by decide +kernel)
          have T1 := hI.a10 dd10
          have T2 := (hI.e7 dd7).1
          clear hd
          simp only [puts, List.foldl_cons, List.foldl_nil, Act.put, List.setIfInBounds_toArray, List.set_cons_zero, List.set_cons_succ, Nat.reduceAdd, Nat.reduceSub, Nat.reduceEqDiff, ↓reduceIte, reduceCtorEq] at hK ⊢
          obtain ⟨g, s, A, n, c, e10, hg, hk, _⟩ := T1
          obtain ⟨s', A', n', c', e7⟩ := T2
          simp only [e10, e7] at hK ⊢
          rw [if_pos (show Region.wanted _ _ = true from rfl)]
          refine wp_store_row 24 _ _ rfl g #[.bool s', .slice A' n' c'] rfl rfl 24 _ hk (by kernel_rfl) rfl (by simp [Value.oneCell']) ?_
          exact hK undef _ (hI.sto12 dd10 dd7 e10 hg hk e7)
      · intro d vs Wq hd hI
        have hS := hI.below
        simp only [puts, List.foldl_cons, List.foldl_nil, Act.put, List.setIfInBounds_toArray, List.set_cons_zero, List.set_cons_succ, Nat.reduceAdd, Nat.reduceSub, Nat.reduceEqDiff, ↓reduceIte, reduceCtorEq]
        have T9 := hI.a9 (hd 9 (by decide))
        obtain ⟨g9, s9, A9, n9, c9, e9, l9, b9, q9⟩ := T9
        replace q9 := q9 (hd 11 (by decide))
        have V9 := hI.e6 (hd 6 (by decide))
        rw [q9] at V9
        replace V9 := Lib.hid V9
        have K9 := Lib.hid b9
        clear b9 l9
        have T10 := hI.a10 (hd 10 (by decide))
        obtain ⟨g10, s10, A10, n10, c10, e10, l10, b10, q10⟩ := T10
        replace q10 := q10 (hd 12 (by decide))
        have V10 := hI.e7 (hd 7 (by decide))
        rw [q10] at V10
        replace V10 := Lib.hid V10
        have K10 := Lib.hid b10
        clear b10 l10
        have d8 := hI.e8 (hd 8 (by decide))
        simp only [e9, e10, q9, q10, d8]
        clear d8 e9 e10 q9 q10 hd hI hS0
        simp only [List.drop_succ_cons, List.drop_zero]
        replace K2 := Lib.hid (K2.out.below hS)
        replace K3 := Lib.hid (K3.out.below hS)
        replace HE := Lib.hid (HE.out.below hS)
        replace B0 := Lib.hid (B0.out.below hS)
        replace B1 := Lib.hid (B1.out.below hS)
        replace K5 := Lib.hid (K5.out.below hS)
        replace V5 := Lib.hid (V5.out.below hS)
        replace K6 := Lib.hid (K6.out.below hS)
        replace V6 := Lib.hid (V6.out.below hS)
        replace K7 := Lib.hid (K7.out.below hS)
        replace V7 := Lib.hid (V7.out.below hS)
        replace HB := Lib.hid (HB.out.trans (hS.mono HB.out.size))
        clear hS
        rcases HQ.out with ⟨rfl, hz, hq⟩ | ⟨rfl, hz⟩
        · rcases HQ2.out with ⟨rfl, hz2, hq2⟩ | ⟨rfl, hz2⟩
          · clear HQ HQ2
            have HG0 := Lib.hid (show 0 < G from by
              have h := HG.out
              omega)
            have hdv : G ∣ z0 ∧ G ∣ z1 := by
              rw [← HG.out]
              exact ⟨Int.ofNat_dvd_left.2 (Nat.gcd_dvd_left _ _), Int.ofNat_dvd_left.2 (Nat.gcd_dvd_right _ _)⟩
            obtain rfl : r = 0 := rem_zero HG0.out hdv.1 hq
            obtain rfl : r2 = 0 := rem_zero HG0.out hdv.2 hq2
            clear hdv hz hz2 hq hq2
            replace V7 := Lib.hid (V7.out.2.1 rfl)
            replace V10 := Lib.hid (V10.out.2.1 rfl)
            clear V6 V9
            have k5_0 : Wq.cell? ⟨g5, 0, none⟩ = some (.bool s5) := K5.out.cell 0
            have k5_1 : Wq.cell? ⟨g5, 1, none⟩ = some (.slice A5 n5 c5) := K5.out.cell 1
            have CS := Lib.hid (show Calls Tryd.prog 21 #[_] Wq (fun e w' => e = .returned (.int .i64 1) ∧ Below _ _ w') from Int.sign_eq_one_of_pos HG0.out ▸ Sign_any _ G 8 Wq V5.out.bg)
            go_wp2_with fail
            clear k5_0 k5_1
            refine (CS.out).mono ?_
            rintro e w6 ⟨rfl, hb⟩
            replace K2 := Lib.hid (K2.out.below hb)
            replace K3 := Lib.hid (K3.out.below hb)
            replace HE := Lib.hid (HE.out.below hb)
            replace B0 := Lib.hid (B0.out.below hb)
            replace B1 := Lib.hid (B1.out.below hb)
            replace K5 := Lib.hid (K5.out.below hb)
            replace V5 := Lib.hid (V5.out.below hb)
            replace K6 := Lib.hid (K6.out.below hb)
            replace K7 := Lib.hid (K7.out.below hb)
            replace V7 := Lib.hid (V7.out.below hb)
            replace K9 := Lib.hid (K9.out.below hb)
            replace K10 := Lib.hid (K10.out.below hb)
            replace V10 := Lib.hid (V10.out.below hb)
            replace HB := Lib.hid (HB.out.trans (hb.mono HB.out.size))
            clear hb
            clear CS
            have k7_0 : w6.cell? ⟨g7, 0, none⟩ = some (.bool s7) := K7.out.cell 0
            have k7_1 : w6.cell? ⟨g7, 1, none⟩ = some (.slice A7 n7 c7) := K7.out.cell 1
            have CS := Lib.hid (show Calls Tryd.prog 21 #[_] w6 (fun e w' => e = .returned (.int .i64 0) ∧ Below _ _ w') from Sign_any _ 0 11 w6 V7.out.bg)
            go_wp2_with fail
            clear k7_0 k7_1
            refine (CS.out).mono ?_
            rintro e w7 ⟨rfl, hb⟩
            replace K2 := Lib.hid (K2.out.below hb)
            replace K3 := Lib.hid (K3.out.below hb)
            replace HE := Lib.hid (HE.out.below hb)
            replace B0 := Lib.hid (B0.out.below hb)
            replace B1 := Lib.hid (B1.out.below hb)
            replace K5 := Lib.hid (K5.out.below hb)
            replace V5 := Lib.hid (V5.out.below hb)
            replace K6 := Lib.hid (K6.out.below hb)
            replace K7 := Lib.hid (K7.out.below hb)
            replace V7 := Lib.hid (V7.out.below hb)
            replace K9 := Lib.hid (K9.out.below hb)
            replace K10 := Lib.hid (K10.out.below hb)
            replace V10 := Lib.hid (V10.out.below hb)
            replace HB := Lib.hid (HB.out.trans (hb.mono HB.out.size))
            clear hb
            clear CS
            have k10_0 : w7.cell? ⟨g10, 0, none⟩ = some (.bool s10) := K10.out.cell 0
            have k10_1 : w7.cell? ⟨g10, 1, none⟩ = some (.slice A10 n10 c10) := K10.out.cell 1
            have CS := Lib.hid (show Calls Tryd.prog 21 #[_] w7 (fun e w' => e = .returned (.int .i64 0) ∧ Below _ _ w') from Sign_any _ 0 11 w7 V10.out.bg)
            go_wp2_with fail
            clear k10_0 k10_1
            refine (CS.out).mono ?_
            rintro e w8 ⟨rfl, hb⟩
            replace K2 := Lib.hid (K2.out.below hb)
            replace K3 := Lib.hid (K3.out.below hb)
            replace HE := Lib.hid (HE.out.below hb)
            replace B0 := Lib.hid (B0.out.below hb)
            replace B1 := Lib.hid (B1.out.below hb)
            replace K5 := Lib.hid (K5.out.below hb)
            replace V5 := Lib.hid (V5.out.below hb)
            replace K6 := Lib.hid (K6.out.below hb)
            replace K7 := Lib.hid (K7.out.below hb)
            replace V7 := Lib.hid (V7.out.below hb)
            replace K9 := Lib.hid (K9.out.below hb)
            replace K10 := Lib.hid (K10.out.below hb)
            replace V10 := Lib.hid (V10.out.below hb)
            replace HB := Lib.hid (HB.out.trans (hb.mono HB.out.size))
            clear hb
            clear CS
            go_wp2
            go_ret
            exact ⟨rfl, HB.out⟩
          · exact absurd hz2 hz
        · rcases HQ2.out with ⟨rfl, hz2, hq2⟩ | ⟨rfl, hz2⟩
          · exact absurd hz hz2
          · clear HQ HQ2 hz2
            have HZ0 := Lib.hid (show z0 = 0 ∧ z1 = 0 from by
              have h := HG.out
              rw [hz] at h
              have h1 : Nat.gcd z0.natAbs z1.natAbs = 0 := by exact_mod_cast h
              exact ⟨Int.natAbs_eq_zero.1 (Nat.eq_zero_of_gcd_eq_zero_left h1), Int.natAbs_eq_zero.1 (Nat.eq_zero_of_gcd_eq_zero_right h1)⟩)
            have e7 := V7.out.2.2 rfl
            have e10 := V10.out.2.2 rfl
            injection e7 with e7
            injection e10 with e10
            clear V6 V7 V9 V10
            simp only [Array.mk.injEq, List.cons.injEq, Value.bool.injEq, Value.slice.injEq, and_true] at e7 e10
            obtain ⟨rfl, rfl, rfl, rfl⟩ := e7
            obtain ⟨rfl, rfl, rfl, rfl⟩ := e10
            rw [hz] at V5
            clear hz
            have ZG : Hid (∀ W : World, Calls Tryd.prog 21 #[.agg #[.bool false, .slice none 0 0]] W fun e w' => e = .returned (.int .i64 0) ∧ Below W.heap.size W w') := Lib.hid (fun W => Sign_any _ 0 0 W ⟨false, none, 0, 0, [], rfl, DG.empty _ _, Sl.nil, Nat.zero_le _, by simp [sgn, dv]⟩)
            have k5_0 : Wq.cell? ⟨g5, 0, none⟩ = some (.bool s5) := K5.out.cell 0
            have k5_1 : Wq.cell? ⟨g5, 1, none⟩ = some (.slice A5 n5 c5) := K5.out.cell 1
            have CS := Lib.hid (show Calls Tryd.prog 21 #[_] Wq (fun e w' => e = .returned (.int .i64 0) ∧ Below _ _ w') from Sign_any _ 0 8 Wq V5.out.bg)
            go_wp2_with fail
            clear k5_0 k5_1
            refine (CS.out).mono ?_
            rintro e w6 ⟨rfl, hb⟩
            replace K2 := Lib.hid (K2.out.below hb)
            replace K3 := Lib.hid (K3.out.below hb)
            replace HE := Lib.hid (HE.out.below hb)
            replace B0 := Lib.hid (B0.out.below hb)
            replace B1 := Lib.hid (B1.out.below hb)
            replace K5 := Lib.hid (K5.out.below hb)
            replace V5 := Lib.hid (V5.out.below hb)
            replace K6 := Lib.hid (K6.out.below hb)
            replace K7 := Lib.hid (K7.out.below hb)
            replace K9 := Lib.hid (K9.out.below hb)
            replace K10 := Lib.hid (K10.out.below hb)
            replace HB := Lib.hid (HB.out.trans (hb.mono HB.out.size))
            clear hb
            clear CS
            have k7_0 : w6.cell? ⟨g7, 0, none⟩ = some (.bool false) := K7.out.cell 0
            have k7_1 : w6.cell? ⟨g7, 1, none⟩ = some (.slice none 0 0) := K7.out.cell 1
            have CS := Lib.hid (ZG.out w6)
            go_wp2_with fail
            clear k7_0 k7_1
            refine (CS.out).mono ?_
            rintro e w7 ⟨rfl, hb⟩
            replace K2 := Lib.hid (K2.out.below hb)
            replace K3 := Lib.hid (K3.out.below hb)
            replace HE := Lib.hid (HE.out.below hb)
            replace B0 := Lib.hid (B0.out.below hb)
            replace B1 := Lib.hid (B1.out.below hb)
            replace K5 := Lib.hid (K5.out.below hb)
            replace V5 := Lib.hid (V5.out.below hb)
            replace K6 := Lib.hid (K6.out.below hb)
            replace K7 := Lib.hid (K7.out.below hb)
            replace K9 := Lib.hid (K9.out.below hb)
            replace K10 := Lib.hid (K10.out.below hb)
            replace HB := Lib.hid (HB.out.trans (hb.mono HB.out.size))
            clear hb
            clear CS
            have k10_0 : w7.cell? ⟨g10, 0, none⟩ = some (.bool false) := K10.out.cell 0
            have k10_1 : w7.cell? ⟨g10, 1, none⟩ = some (.slice none 0 0) := K10.out.cell 1
            have CS := Lib.hid (ZG.out w7)
            go_wp2_with fail
            clear k10_0 k10_1
            refine (CS.out).mono ?_
            rintro e w8 ⟨rfl, hb⟩
            replace K2 := Lib.hid (K2.out.below hb)
            replace K3 := Lib.hid (K3.out.below hb)
            replace HE := Lib.hid (HE.out.below hb)
            replace B0 := Lib.hid (B0.out.below hb)
            replace B1 := Lib.hid (B1.out.below hb)
            replace K5 := Lib.hid (K5.out.below hb)
            replace V5 := Lib.hid (V5.out.below hb)
            replace K6 := Lib.hid (K6.out.below hb)
            replace K7 := Lib.hid (K7.out.below hb)
            replace K9 := Lib.hid (K9.out.below hb)
            replace K10 := Lib.hid (K10.out.below hb)
            replace HB := Lib.hid (HB.out.trans (hb.mono HB.out.size))
            clear hb
            clear CS
            go_wp2
            go_ret
            exact ⟨rfl, HB.out⟩
end Go.Proofs.YtndkcimdbidgaaaDoor
