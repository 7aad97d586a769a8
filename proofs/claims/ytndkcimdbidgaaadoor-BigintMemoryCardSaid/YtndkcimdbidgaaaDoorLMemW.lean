/- The walk of law BigintMemory. -/
import Derived.Test.YtndkcimdbidgaaaDoorBmo
import Derived.Test.YtndkcimdbidgaaaDoorBmu
import Derived.Test.YtndkcimdbidgaaaDoorBap
import Derived.Test.YtndkcimdbidgaaaDoorBnm
import Derived.Test.YtndkcimdbidgaaaDoorBsb
import Derived.Test.YtndkcimdbidgaaaDoorBfm
import Derived.Test.YtndkcimdbidgaaaDoorBrz
namespace Go.Proofs.YtndkcimdbidgaaaDoor
open Go.ChangeShapes Go.WideShapes Go.ChangeAt Go.RowKit Go.ChangeMaps

def memR (B4 : Nat) (VX VY VQ VR : Value) (i : Nat) (v : Value) (W : World) : Prop :=
  match i with
  | 0 => v = VX
  | 2 => v = VX
  | 4 => v = VX
  | 7 => v = VX
  | 10 => v = VX
  | 13 => v = VX
  | 5 => v = VY
  | 8 => v = VY
  | 11 => v = VY
  | 14 => v = VY
  | 16 => v = VQ
  | 17 => v = VR
  | 1 => RV W B4 v
  | 3 => RV W B4 v
  | 6 => RV W B4 v
  | 9 => RV W B4 v
  | 12 => RV W B4 v
  | 15 => RV W B4 v
  | 18 => ∃ (g : Nat) (L : List (Bool × Option Addr × Nat × Nat)), v = .slice (some ⟨g, 0, none⟩) 8 8 ∧ L.length = 8 ∧ Blk W g 24 (L.flatMap bigc).toArray ∧ ∀ x ∈ L, RV W B4 (.agg #[.bool x.1, .slice x.2.1 x.2.2.1 x.2.2.2])
  | 19 => v = .int .i64 8
  | 20 => v = .int .i64 0
  | _ => True
theorem memR_mono (B4 : Nat) (VX VY VQ VR : Value) (i : Nat) (v : Value) (W W' : World) (h : memR B4 VX VY VQ VR i v W) (hb : Below W.heap.size W W') : memR B4 VX VY VQ VR i v W' := by
  unfold memR at h ⊢
  split at h <;> first | exact h.below hb | exact h | exact (let ⟨g, L, e, hl, hk, hr⟩ := h; ⟨g, L, e, hl, hk.below hb, fun x hx => (hr x hx).below hb⟩) | trivial
def bigintMemoryS1 (B : Nat) (z0 z1 : Int) (x0 x1 : Bool) (n0 n1 : Nat) (D0 D1 : List Nat) (i : Nat) (v : Value) (W : World) : Prop :=
  match i with
  | 1 => OD W B v x0 n0 D0
  | 3 => OD W B v x1 n1 D1
  | 4 => NwB W B v
  | 5 => NwB W B v
  | _ => True
theorem bigintMemoryS1_mono (B : Nat) (z0 z1 : Int) (x0 x1 : Bool) (n0 n1 : Nat) (D0 D1 : List Nat) (i : Nat) (v : Value) (W W' : World) (h : bigintMemoryS1 B z0 z1 x0 x1 n0 n1 D0 D1 i v W) (hb : Below W.heap.size W W') : bigintMemoryS1 B z0 z1 x0 x1 n0 n1 D0 D1 i v W' := by
  unfold bigintMemoryS1 at h ⊢
  split at h <;> first | exact h.below hb | exact h | exact (let ⟨a, b, c, d, e⟩ := h; ⟨a, b, c, d.below hb, e.below hb⟩) | trivial
set_option maxRecDepth 100000 in
set_option maxHeartbeats 4000000 in
theorem bigintMemory_walk (x0 : Bool) (A0 : Option Addr) (n0 c0 : Nat) (D0 : List Nat) (x1 : Bool) (A1 : Option Addr) (n1 c1 : Nat) (D1 : List Nat) (w : World) (k0 : DG w A0 n0 D0) (l0 : Sl A0 n0 c0) (k1 : DG w A1 n1 D1) (l1 : Sl A1 n1 c1) (hE : EnvB w) : Calls Tryd.prog 12 #[.agg #[.bool x0, .slice A0 n0 c0], .agg #[.bool x1, .slice A1 n1 c1]] w fun e w' => e = .returned (.bool true) ∧ Below w.heap.size w w' := by
  have HE := Lib.hid hE
  clear hE
  obtain ⟨w0, hw0⟩ : ∃ W, W = (w.alloc (.cells #[.bool x0, .slice A0 n0 c0] 24)).alloc (.cells #[.bool x1, .slice A1 n1 c1] 24) := ⟨_, rfl⟩
  have hb0 : Below w.heap.size w w0 := by rw [hw0]; exact (((Below.refl _ w).alloc (Nat.le_refl _) _).alloc (by first | (simp; done) | (simp; omega)) _)
  have HB := Lib.hid hb0
  replace HE := Lib.hid (HE.out.below hb0)
  have K2 := Lib.hid (show Blk w0 (w.heap.size) 24 #[.bool x0, .slice A0 n0 c0] by rw [hw0]; exact ((Blk.new _ _ _).alloc _))
  have G0 := Lib.hid (show DG w0 A0 n0 D0 from k0.below hb0)
  have L0 := Lib.hid l0
  obtain ⟨z0, hz0⟩ : ∃ z, z = sgn x0 (dv 4294967296 D0) := ⟨_, rfl⟩
  have Z0 := Lib.hid hz0
  clear hz0 k0 l0
  have K3 := Lib.hid (show Blk w0 (w.heap.size + 1) 24 #[.bool x1, .slice A1 n1 c1] by rw [hw0]; exact Blk.new_ (by simp) rfl)
  have G1 := Lib.hid (show DG w0 A1 n1 D1 from k1.below hb0)
  have L1 := Lib.hid l1
  obtain ⟨z1, hz1⟩ : ∃ z, z = sgn x1 (dv 4294967296 D1) := ⟨_, rfl⟩
  have Z1 := Lib.hid hz1
  clear hz1 k1 l1
  clear hb0
  go_enter Tryd.func12, Tryd.ntmps12
  go_wp2_with fail
  rw [← hw0]
  clear hw0
  refine (awake_any _ HE.out).mono ?_
  rintro e w1 ⟨rfl, hb⟩
  replace K2 := Lib.hid (K2.out.below hb)
  replace G0 := Lib.hid (G0.out.below hb)
  replace K3 := Lib.hid (K3.out.below hb)
  replace G1 := Lib.hid (G1.out.below hb)
  replace HE := Lib.hid (HE.out.below hb)
  replace HB := Lib.hid (HB.out.trans (hb.mono HB.out.size))
  clear hb
  have k2_0 : w1.cell? ⟨w.heap.size, 0, none⟩ = some (.bool x0) := K2.out.cell 0
  have k2_1 : w1.cell? ⟨w.heap.size, 1, none⟩ = some (.slice A0 n0 c0) := K2.out.cell 1
  have k3_0 : w1.cell? ⟨w.heap.size + 1, 0, none⟩ = some (.bool x1) := K3.out.cell 0
  have k3_1 : w1.cell? ⟨w.heap.size + 1, 1, none⟩ = some (.slice A1 n1 c1) := K3.out.cell 1
  obtain ⟨wb, hwb⟩ : ∃ W, W = w1.alloc (.cells #[.bool x0, .slice A0 n0 c0, .bool x1, .slice A1 n1 c1] 24) := ⟨_, rfl⟩
  have hbb : Below w1.heap.size w1 wb := by rw [hwb]; exact (Below.refl _ _).alloc (Nat.le_refl _) _
  have KB : Blk wb w1.heap.size 24 #[.bool x0, .slice A0 n0 c0, .bool x1, .slice A1 n1 c1] := by rw [hwb]; exact Blk.new _ _ _
  have CS := Lib.hid (small_any [(x0, A0, n0, c0), (x1, A1, n1, c1)] w1.heap.size 2 wb KB.lt (fun j v h => (KB.cell j).trans (by simpa [bigc] using h)) (by simp))
  clear KB
  go_wp2_with fail
  rw [← hwb]
  clear hwb
  clear k2_0 k2_1 k3_0 k3_1
  replace K2 := Lib.hid (K2.out.below hbb)
  replace G0 := Lib.hid (G0.out.below hbb)
  replace K3 := Lib.hid (K3.out.below hbb)
  replace G1 := Lib.hid (G1.out.below hbb)
  replace HE := Lib.hid (HE.out.below hbb)
  replace HB := Lib.hid (HB.out.trans (hbb.mono HB.out.size))
  clear hbb
  refine CS.out.mono ?_
  rintro e w2 ⟨b, rfl, hsm, hb⟩
  clear CS
  replace K2 := Lib.hid (K2.out.below hb)
  replace G0 := Lib.hid (G0.out.below hb)
  replace K3 := Lib.hid (K3.out.below hb)
  replace G1 := Lib.hid (G1.out.below hb)
  replace HE := Lib.hid (HE.out.below hb)
  replace HB := Lib.hid (HB.out.trans (hb.mono HB.out.size))
  clear hb
  have HSM := Lib.hid hsm
  clear hsm
  cases b
  · go_wp2_with fail
    refine (awake_any _ HE.out).mono ?_
    rintro e wz ⟨rfl, hb⟩
    have HBz := Lib.hid (HB.out.trans (hb.mono HB.out.size))
    clear hb
    go_wp2
    go_ret
    exact ⟨rfl, HBz.out⟩

  have h80 : n0 ≤ 8 := HSM.out rfl (x0, A0, n0, c0) (by simp)
  have h81 : n1 ≤ 8 := HSM.out rfl (x1, A1, n1, c1) (by simp)
  have B0 := Lib.hid (show BG w2 (.agg #[.bool x0, .slice A0 n0 c0]) z0 8 from ⟨x0, A0, n0, c0, D0, rfl, G0.out, L0.out, h80, Z0.out⟩)
  have B1 := Lib.hid (show BG w2 (.agg #[.bool x1, .slice A1 n1 c1]) z1 8 from ⟨x1, A1, n1, c1, D1, rfl, G1.out, L1.out, h81, Z1.out⟩)
  clear HSM
  have H8 := Lib.hid (And.intro h80 h81)
  clear h80 h81
  have k2_0 : w2.cell? ⟨w.heap.size, 0, none⟩ = some (.bool x0) := K2.out.cell 0
  have k2_1 : w2.cell? ⟨w.heap.size, 1, none⟩ = some (.slice A0 n0 c0) := K2.out.cell 1
  have k3_0 : w2.cell? ⟨w.heap.size + 1, 0, none⟩ = some (.bool x1) := K3.out.cell 0
  have k3_1 : w2.cell? ⟨w.heap.size + 1, 1, none⟩ = some (.slice A1 n1 c1) := K3.out.cell 1
  go_wp2_with fail
  have hS0 : Below w2.heap.size w2 w2.drew := below_drew (Below.refl _ _)
  refine wp_region_mix 6 (fun w' => Below w2.heap.size w2 w') (by kernel_rfl) (by decide) ?_
  generalize w2.drew = y0 at hS0 ⊢
  refine wpM_take (i := 0) (oi := ⟨some 22, _, _, _, _, _⟩) (v := ?_) rfl (by decide +kernel) (by decide +kernel) (by decide +kernel) (fun _ _ _ h => h) (Or.inl ⟨by rfl, ?_⟩) hS0 ?_
  case refine_2 =>
    intro w' hSw
    have k2_0' := keepcell hSw k2_0
    have k2_1' := keepcell hSw k2_1
    go_simp
    try (with_reducible rfl)
  try simp only [Act.put, List.setIfInBounds_toArray, List.set_cons_zero, List.set_cons_succ]
  refine wpM_take (i := 2) (oi := ⟨some 24, _, _, _, _, _⟩) (v := ?_) rfl (by decide +kernel) (by decide +kernel) (by decide +kernel) (fun _ _ _ h => h) (Or.inl ⟨by rfl, ?_⟩) hS0 ?_
  case refine_2 =>
    intro w' hSw
    have k3_0' := keepcell hSw k3_0
    have k3_1' := keepcell hSw k3_1
    go_simp
    try (with_reducible rfl)
  try simp only [Act.put, List.setIfInBounds_toArray, List.set_cons_zero, List.set_cons_succ]
  clear k2_0 k2_1 k3_0 k3_1
  refine wpM_apart (fun i => if i = 4 then 5 else if i = 5 then 6 else 22 + i) [1, 3, 4, 5] (bigintMemoryS1 w2.heap.size z0 z1 x0 x1 n0 n1 D0 D1) (ap2 4 5) (by decide +kernel) (ap2_sym (by decide)) (bigintMemoryS1_mono w2.heap.size z0 z1 x0 x1 n0 n1 D0 D1) hS0 ?_ ?_
  · refine List.forall_mem_cons.2 ⟨?_, List.forall_mem_cons.2 ⟨?_, List.forall_mem_cons.2 ⟨?_, List.forall_mem_cons.2 ⟨?_, List.forall_mem_nil _⟩⟩⟩⟩
    · refine ⟨⟨some 23, _, _, _, _, _⟩, rfl, rfl, fun vs W K hS hd hK => ?_⟩
      simp only [puts, List.foldl_cons, List.foldl_nil, Act.put, List.setIfInBounds_toArray, List.set_cons_zero, List.set_cons_succ, Nat.reduceAdd, Nat.reduceSub, Nat.reduceEqDiff, ↓reduceIte, reduceCtorEq] at hK ⊢
      go_simp
      refine (cp_od W x0 A0 n0 c0 D0 (G0.out.below hS) (by have := H8.out; omega)).mono ?_
      rintro e W' ⟨v, rfl, hv, hb⟩
      exact hK _ _ (hS.trans (hb.mono hS.size)) hb (hv.mono hS.size) (fun j h => absurd h (ap2_no (by decide) (by decide)))
    · refine ⟨⟨some 25, _, _, _, _, _⟩, rfl, rfl, fun vs W K hS hd hK => ?_⟩
      simp only [puts, List.foldl_cons, List.foldl_nil, Act.put, List.setIfInBounds_toArray, List.set_cons_zero, List.set_cons_succ, Nat.reduceAdd, Nat.reduceSub, Nat.reduceEqDiff, ↓reduceIte, reduceCtorEq] at hK ⊢
      go_simp
      refine (cp_od W x1 A1 n1 c1 D1 (G1.out.below hS) (by have := H8.out; omega)).mono ?_
      rintro e W' ⟨v, rfl, hv, hb⟩
      exact hK _ _ (hS.trans (hb.mono hS.size)) hb (hv.mono hS.size) (fun j h => absurd h (ap2_no (by decide) (by decide)))
    · refine ⟨⟨some 5, _, _, _, _, _⟩, rfl, rfl, fun vs W K hS hd hK => ?_⟩
      simp only [puts, List.foldl_cons, List.foldl_nil, Act.put, List.setIfInBounds_toArray, List.set_cons_zero, List.set_cons_succ, Nat.reduceAdd, Nat.reduceSub, Nat.reduceEqDiff, ↓reduceIte, reduceCtorEq] at hK ⊢
      go_simp
      exact hK _ _ (hS.alloc hS.size _) ((Below.refl _ _).alloc (Nat.le_refl _) _) (NwB.new hS.size) (fun j h u hu => by
        obtain rfl := ap2_l (by decide) h
        exact (show NwB W w2.heap.size u from hu).ne)
    · refine ⟨⟨some 6, _, _, _, _, _⟩, rfl, rfl, fun vs W K hS hd hK => ?_⟩
      simp only [puts, List.foldl_cons, List.foldl_nil, Act.put, List.setIfInBounds_toArray, List.set_cons_zero, List.set_cons_succ, Nat.reduceAdd, Nat.reduceSub, Nat.reduceEqDiff, ↓reduceIte, reduceCtorEq] at hK ⊢
      go_simp
      exact hK _ _ (hS.alloc hS.size _) ((Below.refl _ _).alloc (Nat.le_refl _) _) (NwB.new hS.size) (fun j h u hu => by
        obtain rfl := ap2_r (by decide) h
        exact (show NwB W w2.heap.size u from hu).ne)
  · intro vs W hS hd hap
    have d4 : NwB W w2.heap.size (vs 4) := hd 4 (by decide)
    have d1 : OD W w2.heap.size (vs 1) x0 n0 D0 := hd 1 (by decide)
    have d5 : NwB W w2.heap.size (vs 5) := hd 5 (by decide)
    have d3 : OD W w2.heap.size (vs 3) x1 n1 D1 := hd 3 (by decide)
    obtain ⟨g5, e5, l5, b5⟩ := d4
    obtain ⟨s5, A5, n5, c5, q5⟩ := d1.expose
    obtain ⟨g6, e6, l6, b6⟩ := d5
    obtain ⟨s6, A6, n6, c6, q6⟩ := d3.expose
    have hne : g5 ≠ g6 := by
      intro e
      refine hap 4 (by decide) 5 (by decide) (by decide) ?_
      rw [e5, e6, e]
    clear hap
    simp only [puts, List.foldl_cons, List.foldl_nil, Act.put, List.setIfInBounds_toArray, List.set_cons_zero, List.set_cons_succ, Nat.reduceAdd, Nat.reduceSub, Nat.reduceEqDiff, ↓reduceIte, reduceCtorEq]
    simp only [e5, q5, e6, q6]
    rw [q5] at d1
    have V5 := Lib.hid d1
    have K5 := Lib.hid b5
    clear d1 b5 e5 q5
    rw [q6] at d3
    have V6 := Lib.hid d3
    have K6 := Lib.hid b6
    clear d3 b6 e6 q6
    simp only [List.drop_succ_cons, List.drop_zero]
    clear hd hS0
    obtain ⟨u3, hu3⟩ : ∃ V, V = W.setRow g5 #[.bool s5, .slice A5 n5 c5] := ⟨_, rfl⟩
    have hbu3 : Below w2.heap.size w2 u3 := by rw [hu3]; exact hS.grown (grown_row _ _ _) hS.size (fun j hj => by injection hj with hj; omega)
    have K5_u3 : Hid (Blk u3 g5 24 #[.bool s5, .slice A5 n5 c5]) := Lib.hid (by rw [hu3]; exact K5.out.setRow)
    replace V5 := Lib.hid (show OD u3 _ _ _ _ _ from by rw [hu3]; exact V5.out.row K5.out _)
    replace V6 := Lib.hid (show OD u3 _ _ _ _ _ from by rw [hu3]; exact V6.out.row K5.out _)
    have K6_u3 : Hid (Blk u3 g6 24 #[.bool false, .slice none 0 0]) := Lib.hid (by rw [hu3]; exact (setRow_other W g5 g6 _ (by omega)).trans K6.out)
    obtain ⟨u4, hu4⟩ : ∃ V, V = u3.setRow g6 #[.bool s6, .slice A6 n6 c6] := ⟨_, rfl⟩
    have hbu4 : Below w2.heap.size w2 u4 := by rw [hu4]; exact hbu3.grown (grown_row _ _ _) hbu3.size (fun j hj => by injection hj with hj; omega)
    have K6_u4 : Hid (Blk u4 g6 24 #[.bool s6, .slice A6 n6 c6]) := Lib.hid (by rw [hu4]; exact K6_u3.out.setRow)
    replace V5 := Lib.hid (show OD u4 _ _ _ _ _ from by rw [hu4]; exact V5.out.row K6_u3.out _)
    replace V6 := Lib.hid (show OD u4 _ _ _ _ _ from by rw [hu4]; exact V6.out.row K6_u3.out _)
    have K5_u4 : Hid (Blk u4 g5 24 #[.bool s5, .slice A5 n5 c5]) := Lib.hid (by rw [hu4]; exact (setRow_other u3 g6 g5 _ (by omega)).trans K5_u3.out)
    go_upto_region 4 with (first | (refine wpList_store_row (o := ⟨none, _, _, _, _, _⟩) rfl 24 _ _ rfl (g5) #[.bool s5, .slice A5 n5 c5] rfl rfl 24 _ K5.out (by kernel_rfl) rfl (by simp [Value.oneCell']) ?_; rw [← hu3]) | (refine wpList_store_row (o := ⟨none, _, _, _, _, _⟩) rfl 24 _ _ rfl (g6) #[.bool s6, .slice A6 n6 c6] rfl rfl 24 _ K6_u3.out (by kernel_rfl) rfl (by simp [Value.oneCell']) ?_; rw [← hu4]))
    replace K5 := K5_u4
    replace K6 := K6_u4
    clear hu3 hu4
    clear l5
    clear l6
    clear hne
    replace K2 := Lib.hid (K2.out.below hbu4)
    replace K3 := Lib.hid (K3.out.below hbu4)
    replace HE := Lib.hid (HE.out.below hbu4)
    replace B0 := Lib.hid (B0.out.below hbu4)
    replace B1 := Lib.hid (B1.out.below hbu4)
    replace G0 := Lib.hid (G0.out.below hbu4)
    replace G1 := Lib.hid (G1.out.below hbu4)
    replace HB := Lib.hid (HB.out.trans (hbu4.mono HB.out.size))
    clear hbu4
    obtain ⟨e1, e2⟩ := V5.out.eqs
    subst e1
    subst e2
    obtain ⟨e1, e2⟩ := V6.out.eqs
    subst e1
    subst e2
    obtain ⟨B4, hB4⟩ : ∃ B, B = u4.heap.size := ⟨_, rfl⟩
    have HB4 := Lib.hid hB4
    clear hB4
    have X5 := Lib.hid (V5.out.bg (N := 8) (by have := H8.out; omega) Z0.out)
    have X6 := Lib.hid (V6.out.bg (N := 8) (by have := H8.out; omega) Z1.out)
    have K24 := K2
    have K34 := K3
    have K54 := K5
    have K64 := K6
    have G04 := G0
    have G14 := G1
    have V54 := V5
    have V64 := V6
    have X54 := X5
    have X64 := X6
    have HE4 := HE
    have HBU := HB
    obtain ⟨q, r, okb, hq⟩ := ok_of z0 z1
    have HQ := Lib.hid hq
    clear hq
    have k5_0 : u4.cell? ⟨g5, 0, none⟩ = some (.bool x0) := K5.out.cell 0
    have k5_1 : u4.cell? ⟨g5, 1, none⟩ = some (.slice A5 n0 c5) := K5.out.cell 1
    have k6_0 : u4.cell? ⟨g6, 0, none⟩ = some (.bool x1) := K6.out.cell 0
    have k6_1 : u4.cell? ⟨g6, 1, none⟩ = some (.slice A6 n1 c6) := K6.out.cell 1
    have CD := Lib.hid (DivFloor_tu u4 _ _ z0 z1 q r okb u4 (Nat.le_refl _) X5.out X6.out HQ.out)
    go_wp2_with fail
    clear k5_0 k5_1 k6_0 k6_1
    refine CD.out.mono ?_
    rintro e w5 ⟨⟨v, rfl, vq, vr, rfl, fq, fr⟩, hb⟩
    have V7 := Lib.hid (fq.rv (base := B4) (by rw [HB4.out]; exact Nat.le_refl _))
    have V8 := Lib.hid (fr.rv (base := B4) (by rw [HB4.out]; exact Nat.le_refl _))
    have hBn : Below B4 u4 w5 := by rw [HB4.out]; exact hb
    have HBN := Lib.hid hBn
    obtain ⟨s7, A7, n7, c7, e7⟩ := fq.1
    obtain ⟨s8, A8, n8, c8, e8⟩ := fr.1
    subst e7
    subst e8
    clear fq fr CD HQ hBn
    replace K2 := Lib.hid (K2.out.below hb)
    replace K3 := Lib.hid (K3.out.below hb)
    replace HE := Lib.hid (HE.out.below hb)
    replace B0 := Lib.hid (B0.out.below hb)
    replace B1 := Lib.hid (B1.out.below hb)
    replace G0 := Lib.hid (G0.out.below hb)
    replace G1 := Lib.hid (G1.out.below hb)
    replace K5 := Lib.hid (K5.out.below hb)
    replace V5 := Lib.hid (V5.out.below hb)
    replace K6 := Lib.hid (K6.out.below hb)
    replace V6 := Lib.hid (V6.out.below hb)
    replace X5 := Lib.hid (X5.out.below hb)
    replace X6 := Lib.hid (X6.out.below hb)
    replace HB := Lib.hid (HB.out.trans (hb.mono HB.out.size))
    clear hb
    obtain ⟨WA, hWA⟩ : ∃ W, W = (w5.alloc (.cells #[.bool s7, .slice A7 n7 c7] 24)).alloc (.cells #[.bool s8, .slice A8 n8 c8] 24) := ⟨_, rfl⟩
    have hbA : Below w5.heap.size w5 WA := by rw [hWA]; exact ((Below.refl _ _).alloc (Nat.le_refl _) _).alloc (by simp) _
    have KA := Lib.hid (show Blk WA w5.heap.size 24 #[.bool s7, .slice A7 n7 c7] by rw [hWA]; exact (Blk.new _ _ _).alloc _)
    have KB := Lib.hid (show Blk WA (w5.heap.size + 1) 24 #[.bool s8, .slice A8 n8 c8] by rw [hWA]; exact Blk.new_ (by simp) rfl)
    obtain ⟨g7, hg7⟩ : ∃ g, w5.heap.size = g := ⟨_, rfl⟩
    rw [hg7] at KA KB
    have K7 := KA
    have K8 := KB
    clear KA KB
    go_upto_region 5 with fail
    rw [← hWA]
    clear hWA hg7
    replace HBN := Lib.hid (HBN.out.trans (hbA.mono (show B4 ≤ w5.heap.size from by rw [HB4.out]; have h1 := HBN.out.size; exact h1)))
    replace K2 := Lib.hid (K2.out.below hbA)
    replace K3 := Lib.hid (K3.out.below hbA)
    replace HE := Lib.hid (HE.out.below hbA)
    replace B0 := Lib.hid (B0.out.below hbA)
    replace B1 := Lib.hid (B1.out.below hbA)
    replace G0 := Lib.hid (G0.out.below hbA)
    replace G1 := Lib.hid (G1.out.below hbA)
    replace K5 := Lib.hid (K5.out.below hbA)
    replace V5 := Lib.hid (V5.out.below hbA)
    replace K6 := Lib.hid (K6.out.below hbA)
    replace V6 := Lib.hid (V6.out.below hbA)
    replace X5 := Lib.hid (X5.out.below hbA)
    replace X6 := Lib.hid (X6.out.below hbA)
    replace V7 := Lib.hid (V7.out.below hbA)
    replace V8 := Lib.hid (V8.out.below hbA)
    replace HB := Lib.hid (HB.out.trans (hbA.mono HB.out.size))
    clear hbA
    have HBZ := Lib.hid (show B4 ≤ WA.heap.size from by rw [HB4.out]; exact HBN.out.size)
    have k5_0 : WA.cell? ⟨g5, 0, none⟩ = some (.bool x0) := K5.out.cell 0
    have k5_1 : WA.cell? ⟨g5, 1, none⟩ = some (.slice A5 n0 c5) := K5.out.cell 1
    have k6_0 : WA.cell? ⟨g6, 0, none⟩ = some (.bool x1) := K6.out.cell 0
    have k6_1 : WA.cell? ⟨g6, 1, none⟩ = some (.slice A6 n1 c6) := K6.out.cell 1
    have k7_0 : WA.cell? ⟨g7, 0, none⟩ = some (.bool s7) := K7.out.cell 0
    have k7_1 : WA.cell? ⟨g7, 1, none⟩ = some (.slice A7 n7 c7) := K7.out.cell 1
    have k8_0 : WA.cell? ⟨(g7 + 1), 0, none⟩ = some (.bool s8) := K8.out.cell 0
    have k8_1 : WA.cell? ⟨(g7 + 1), 1, none⟩ = some (.slice A8 n8 c8) := K8.out.cell 1
    have hS0 : Below WA.heap.size WA WA.drew := below_drew (Below.refl _ _)
    have HSZ := Lib.hid HBZ.out
    obtain ⟨VX, hVX⟩ : ∃ v : Value, v = .agg #[.bool x0, .slice A5 n0 c5] := ⟨_, rfl⟩
    obtain ⟨VY, hVY⟩ : ∃ v : Value, v = .agg #[.bool x1, .slice A6 n1 c6] := ⟨_, rfl⟩
    obtain ⟨VQ, hVQ⟩ : ∃ v : Value, v = .agg #[.bool s7, .slice A7 n7 c7] := ⟨_, rfl⟩
    obtain ⟨VR, hVR⟩ : ∃ v : Value, v = .agg #[.bool s8, .slice A8 n8 c8] := ⟨_, rfl⟩
    have HVX := Lib.hid hVX
    have HVY := Lib.hid hVY
    have HVQ := Lib.hid hVQ
    have HVR := Lib.hid hVR
    clear hVX hVY hVQ hVR
    refine wp_region_specs (fun w' => Below WA.heap.size WA w') (fun i => 33 + i) [0, 1, 2, 3, 4, 5, 6, 7, 8, 9, 10, 11, 12, 13, 14, 15, 16, 17, 18, 19, 20] (memR B4 VX VY VQ VR) (by kernel_rfl) (by decide +kernel) (memR_mono B4 VX VY VQ VR) hS0 ?_ ?_
    · refine List.forall_mem_cons.2 ⟨?_, List.forall_mem_cons.2 ⟨?_, List.forall_mem_cons.2 ⟨?_, List.forall_mem_cons.2 ⟨?_, List.forall_mem_cons.2 ⟨?_, List.forall_mem_cons.2 ⟨?_, List.forall_mem_cons.2 ⟨?_, List.forall_mem_cons.2 ⟨?_, List.forall_mem_cons.2 ⟨?_, List.forall_mem_cons.2 ⟨?_, List.forall_mem_cons.2 ⟨?_, List.forall_mem_cons.2 ⟨?_, List.forall_mem_cons.2 ⟨?_, List.forall_mem_cons.2 ⟨?_, List.forall_mem_cons.2 ⟨?_, List.forall_mem_cons.2 ⟨?_, List.forall_mem_cons.2 ⟨?_, List.forall_mem_cons.2 ⟨?_, List.forall_mem_cons.2 ⟨?_, List.forall_mem_cons.2 ⟨?_, List.forall_mem_cons.2 ⟨?_, List.forall_mem_nil _⟩⟩⟩⟩⟩⟩⟩⟩⟩⟩⟩⟩⟩⟩⟩⟩⟩⟩⟩⟩⟩
      · refine ⟨⟨some 33, _, _, _, _, _⟩, rfl, rfl, fun vs W K hS hd hK => ?_⟩
        have k_0 := keepcell hS k5_0
        have k_1 := keepcell hS k5_1
        simp only [puts, List.foldl_cons, List.foldl_nil, Act.put, List.setIfInBounds_toArray, List.set_cons_zero, List.set_cons_succ, Nat.reduceAdd, Nat.reduceSub, Nat.reduceEqDiff, ↓reduceIte, reduceCtorEq] at hK ⊢
        go_simp
        exact hK _ _ hS (Below.refl _ _) HVX.out.symm
      · refine ⟨⟨some 34, _, _, _, _, _⟩, rfl, rfl, fun vs W K hS hd hK => ?_⟩
        have d0 : vs 0 = .agg #[.bool x0, .slice A5 n0 c5] := (hd 0 (by decide) (by decide +kernel) : vs 0 = _).trans HVX.out
        clear hd
        simp only [puts, List.foldl_cons, List.foldl_nil, Act.put, List.setIfInBounds_toArray, List.set_cons_zero, List.set_cons_succ, Nat.reduceAdd, Nat.reduceSub, Nat.reduceEqDiff, ↓reduceIte, reduceCtorEq] at hK ⊢
        simp only [d0] at hK ⊢
        go_simp
        refine (Normal_any _ z0 8 W (X5.out.below hS) (by decide)).mono ?_
        rintro e W' ⟨v, rfl, hv, hb⟩
        exact hK _ _ (hS.trans (hb.mono hS.size)) hb (show RV _ _ _ from hv.rv (Nat.le_trans HSZ.out hS.size) (by decide))
      · refine ⟨⟨some 35, _, _, _, _, _⟩, rfl, rfl, fun vs W K hS hd hK => ?_⟩
        have k_0 := keepcell hS k5_0
        have k_1 := keepcell hS k5_1
        simp only [puts, List.foldl_cons, List.foldl_nil, Act.put, List.setIfInBounds_toArray, List.set_cons_zero, List.set_cons_succ, Nat.reduceAdd, Nat.reduceSub, Nat.reduceEqDiff, ↓reduceIte, reduceCtorEq] at hK ⊢
        go_simp
        exact hK _ _ hS (Below.refl _ _) HVX.out.symm
      · refine ⟨⟨some 36, _, _, _, _, _⟩, rfl, rfl, fun vs W K hS hd hK => ?_⟩
        have d2 : vs 2 = .agg #[.bool x0, .slice A5 n0 c5] := (hd 2 (by decide) (by decide +kernel) : vs 2 = _).trans HVX.out
        clear hd
        simp only [puts, List.foldl_cons, List.foldl_nil, Act.put, List.setIfInBounds_toArray, List.set_cons_zero, List.set_cons_succ, Nat.reduceAdd, Nat.reduceSub, Nat.reduceEqDiff, ↓reduceIte, reduceCtorEq] at hK ⊢
        simp only [d2] at hK ⊢
        go_simp
        refine (Neg_any _ z0 8 W (X5.out.below hS) (by decide)).mono ?_
        rintro e W' ⟨v, rfl, hv, hb⟩
        exact hK _ _ (hS.trans (hb.mono hS.size)) hb (show RV _ _ _ from hv.rv (Nat.le_trans HSZ.out hS.size) (by decide))
      · refine ⟨⟨some 37, _, _, _, _, _⟩, rfl, rfl, fun vs W K hS hd hK => ?_⟩
        have k_0 := keepcell hS k5_0
        have k_1 := keepcell hS k5_1
        simp only [puts, List.foldl_cons, List.foldl_nil, Act.put, List.setIfInBounds_toArray, List.set_cons_zero, List.set_cons_succ, Nat.reduceAdd, Nat.reduceSub, Nat.reduceEqDiff, ↓reduceIte, reduceCtorEq] at hK ⊢
        go_simp
        exact hK _ _ hS (Below.refl _ _) HVX.out.symm
      · refine ⟨⟨some 38, _, _, _, _, _⟩, rfl, rfl, fun vs W K hS hd hK => ?_⟩
        have k_0 := keepcell hS k6_0
        have k_1 := keepcell hS k6_1
        simp only [puts, List.foldl_cons, List.foldl_nil, Act.put, List.setIfInBounds_toArray, List.set_cons_zero, List.set_cons_succ, Nat.reduceAdd, Nat.reduceSub, Nat.reduceEqDiff, ↓reduceIte, reduceCtorEq] at hK ⊢
        go_simp
        exact hK _ _ hS (Below.refl _ _) HVY.out.symm
      · refine ⟨⟨some 39, _, _, _, _, _⟩, rfl, rfl, fun vs W K hS hd hK => ?_⟩
        have d4 : vs 4 = .agg #[.bool x0, .slice A5 n0 c5] := (hd 4 (by decide) (by decide +kernel) : vs 4 = _).trans HVX.out
        have d5 : vs 5 = .agg #[.bool x1, .slice A6 n1 c6] := (hd 5 (by decide) (by decide +kernel) : vs 5 = _).trans HVY.out
        clear hd
        simp only [puts, List.foldl_cons, List.foldl_nil, Act.put, List.setIfInBounds_toArray, List.set_cons_zero, List.set_cons_succ, Nat.reduceAdd, Nat.reduceSub, Nat.reduceEqDiff, ↓reduceIte, reduceCtorEq] at hK ⊢
        simp only [d4, d5] at hK ⊢
        go_simp
        refine (Add_any _ _ z0 z1 8 8 W (X5.out.below hS) (X6.out.below hS) (by decide) (by decide)).mono ?_
        rintro e W' ⟨v, rfl, hv, hb⟩
        exact hK _ _ (hS.trans (hb.mono hS.size)) hb (show RV _ _ _ from hv.rv (Nat.le_trans HSZ.out hS.size) (by decide))
      · refine ⟨⟨some 40, _, _, _, _, _⟩, rfl, rfl, fun vs W K hS hd hK => ?_⟩
        have k_0 := keepcell hS k5_0
        have k_1 := keepcell hS k5_1
        simp only [puts, List.foldl_cons, List.foldl_nil, Act.put, List.setIfInBounds_toArray, List.set_cons_zero, List.set_cons_succ, Nat.reduceAdd, Nat.reduceSub, Nat.reduceEqDiff, ↓reduceIte, reduceCtorEq] at hK ⊢
        go_simp
        exact hK _ _ hS (Below.refl _ _) HVX.out.symm
      · refine ⟨⟨some 41, _, _, _, _, _⟩, rfl, rfl, fun vs W K hS hd hK => ?_⟩
        have k_0 := keepcell hS k6_0
        have k_1 := keepcell hS k6_1
        simp only [puts, List.foldl_cons, List.foldl_nil, Act.put, List.setIfInBounds_toArray, List.set_cons_zero, List.set_cons_succ, Nat.reduceAdd, Nat.reduceSub, Nat.reduceEqDiff, ↓reduceIte, reduceCtorEq] at hK ⊢
        go_simp
        exact hK _ _ hS (Below.refl _ _) HVY.out.symm
      · refine ⟨⟨some 42, _, _, _, _, _⟩, rfl, rfl, fun vs W K hS hd hK => ?_⟩
        have d7 : vs 7 = .agg #[.bool x0, .slice A5 n0 c5] := (hd 7 (by decide) (by decide +kernel) : vs 7 = _).trans HVX.out
        have d8 : vs 8 = .agg #[.bool x1, .slice A6 n1 c6] := (hd 8 (by decide) (by decide +kernel) : vs 8 = _).trans HVY.out
        clear hd
        simp only [puts, List.foldl_cons, List.foldl_nil, Act.put, List.setIfInBounds_toArray, List.set_cons_zero, List.set_cons_succ, Nat.reduceAdd, Nat.reduceSub, Nat.reduceEqDiff, ↓reduceIte, reduceCtorEq] at hK ⊢
        simp only [d7, d8] at hK ⊢
        go_simp
        refine (Sub_any _ _ z0 z1 8 8 W (X5.out.below hS) (X6.out.below hS) (by decide) (by decide)).mono ?_
        rintro e W' ⟨v, rfl, hv, hb⟩
        exact hK _ _ (hS.trans (hb.mono hS.size)) hb (show RV _ _ _ from hv.rv (Nat.le_trans HSZ.out hS.size) (by decide))
      · refine ⟨⟨some 43, _, _, _, _, _⟩, rfl, rfl, fun vs W K hS hd hK => ?_⟩
        have k_0 := keepcell hS k5_0
        have k_1 := keepcell hS k5_1
        simp only [puts, List.foldl_cons, List.foldl_nil, Act.put, List.setIfInBounds_toArray, List.set_cons_zero, List.set_cons_succ, Nat.reduceAdd, Nat.reduceSub, Nat.reduceEqDiff, ↓reduceIte, reduceCtorEq] at hK ⊢
        go_simp
        exact hK _ _ hS (Below.refl _ _) HVX.out.symm
      · refine ⟨⟨some 44, _, _, _, _, _⟩, rfl, rfl, fun vs W K hS hd hK => ?_⟩
        have k_0 := keepcell hS k6_0
        have k_1 := keepcell hS k6_1
        simp only [puts, List.foldl_cons, List.foldl_nil, Act.put, List.setIfInBounds_toArray, List.set_cons_zero, List.set_cons_succ, Nat.reduceAdd, Nat.reduceSub, Nat.reduceEqDiff, ↓reduceIte, reduceCtorEq] at hK ⊢
        go_simp
        exact hK _ _ hS (Below.refl _ _) HVY.out.symm
      · refine ⟨⟨some 45, _, _, _, _, _⟩, rfl, rfl, fun vs W K hS hd hK => ?_⟩
        have d10 : vs 10 = .agg #[.bool x0, .slice A5 n0 c5] := (hd 10 (by decide) (by decide +kernel) : vs 10 = _).trans HVX.out
        have d11 : vs 11 = .agg #[.bool x1, .slice A6 n1 c6] := (hd 11 (by decide) (by decide +kernel) : vs 11 = _).trans HVY.out
        clear hd
        simp only [puts, List.foldl_cons, List.foldl_nil, Act.put, List.setIfInBounds_toArray, List.set_cons_zero, List.set_cons_succ, Nat.reduceAdd, Nat.reduceSub, Nat.reduceEqDiff, ↓reduceIte, reduceCtorEq] at hK ⊢
        simp only [d10, d11] at hK ⊢
        go_simp
        refine (Mul_any _ _ z0 z1 8 8 W (X5.out.below hS) (X6.out.below hS) (by decide) (by decide)).mono ?_
        rintro e W' ⟨v, rfl, hv, hb⟩
        exact hK _ _ (hS.trans (hb.mono hS.size)) hb (show RV _ _ _ from hv.rv (Nat.le_trans HSZ.out hS.size) (by decide))
      · refine ⟨⟨some 46, _, _, _, _, _⟩, rfl, rfl, fun vs W K hS hd hK => ?_⟩
        have k_0 := keepcell hS k5_0
        have k_1 := keepcell hS k5_1
        simp only [puts, List.foldl_cons, List.foldl_nil, Act.put, List.setIfInBounds_toArray, List.set_cons_zero, List.set_cons_succ, Nat.reduceAdd, Nat.reduceSub, Nat.reduceEqDiff, ↓reduceIte, reduceCtorEq] at hK ⊢
        go_simp
        exact hK _ _ hS (Below.refl _ _) HVX.out.symm
      · refine ⟨⟨some 47, _, _, _, _, _⟩, rfl, rfl, fun vs W K hS hd hK => ?_⟩
        have k_0 := keepcell hS k6_0
        have k_1 := keepcell hS k6_1
        simp only [puts, List.foldl_cons, List.foldl_nil, Act.put, List.setIfInBounds_toArray, List.set_cons_zero, List.set_cons_succ, Nat.reduceAdd, Nat.reduceSub, Nat.reduceEqDiff, ↓reduceIte, reduceCtorEq] at hK ⊢
        go_simp
        exact hK _ _ hS (Below.refl _ _) HVY.out.symm
      · refine ⟨⟨some 48, _, _, _, _, _⟩, rfl, rfl, fun vs W K hS hd hK => ?_⟩
        have d13 : vs 13 = .agg #[.bool x0, .slice A5 n0 c5] := (hd 13 (by decide) (by decide +kernel) : vs 13 = _).trans HVX.out
        have d14 : vs 14 = .agg #[.bool x1, .slice A6 n1 c6] := (hd 14 (by decide) (by decide +kernel) : vs 14 = _).trans HVY.out
        clear hd
        simp only [puts, List.foldl_cons, List.foldl_nil, Act.put, List.setIfInBounds_toArray, List.set_cons_zero, List.set_cons_succ, Nat.reduceAdd, Nat.reduceSub, Nat.reduceEqDiff, ↓reduceIte, reduceCtorEq] at hK ⊢
        simp only [d13, d14] at hK ⊢
        go_simp
        refine (GCD_any (z1.natAbs + 1) (div_any _) _ _ z0 z1 8 W (X5.out.below hS) (X6.out.below hS) (by decide) (by omega)).mono ?_
        rintro e W' ⟨v, rfl, hv, hb⟩
        exact hK _ _ (hS.trans (hb.mono hS.size)) hb (show RV _ _ _ from hv.rv (Nat.le_trans HSZ.out hS.size) (by decide))
      · refine ⟨⟨some 49, _, _, _, _, _⟩, rfl, rfl, fun vs W K hS hd hK => ?_⟩
        have k_0 := keepcell hS k7_0
        have k_1 := keepcell hS k7_1
        simp only [puts, List.foldl_cons, List.foldl_nil, Act.put, List.setIfInBounds_toArray, List.set_cons_zero, List.set_cons_succ, Nat.reduceAdd, Nat.reduceSub, Nat.reduceEqDiff, ↓reduceIte, reduceCtorEq] at hK ⊢
        go_simp
        exact hK _ _ hS (Below.refl _ _) HVQ.out.symm
      · refine ⟨⟨some 50, _, _, _, _, _⟩, rfl, rfl, fun vs W K hS hd hK => ?_⟩
        have k_0 := keepcell hS k8_0
        have k_1 := keepcell hS k8_1
        simp only [puts, List.foldl_cons, List.foldl_nil, Act.put, List.setIfInBounds_toArray, List.set_cons_zero, List.set_cons_succ, Nat.reduceAdd, Nat.reduceSub, Nat.reduceEqDiff, ↓reduceIte, reduceCtorEq] at hK ⊢
        go_simp
        exact hK _ _ hS (Below.refl _ _) HVR.out.symm
      · refine ⟨⟨some 51, _, _, _, _, _⟩, rfl, rfl, fun vs W K hS hd hK => ?_⟩
        have d1 : RV W B4 (vs 1) := hd 1 (by decide) (by decide +kernel)
        have d3 : RV W B4 (vs 3) := hd 3 (by decide) (by decide +kernel)
        have d6 : RV W B4 (vs 6) := hd 6 (by decide) (by decide +kernel)
        have d9 : RV W B4 (vs 9) := hd 9 (by decide) (by decide +kernel)
        have d12 : RV W B4 (vs 12) := hd 12 (by decide) (by decide +kernel)
        have d15 : RV W B4 (vs 15) := hd 15 (by decide) (by decide +kernel)
        have d16 : vs 16 = .agg #[.bool s7, .slice A7 n7 c7] := (hd 16 (by decide) (by decide +kernel) : vs 16 = _).trans HVQ.out
        have d17 : vs 17 = .agg #[.bool s8, .slice A8 n8 c8] := (hd 17 (by decide) (by decide +kernel) : vs 17 = _).trans HVR.out
        clear hd
        simp only [puts, List.foldl_cons, List.foldl_nil, Act.put, List.setIfInBounds_toArray, List.set_cons_zero, List.set_cons_succ, Nat.reduceAdd, Nat.reduceSub, Nat.reduceEqDiff, ↓reduceIte, reduceCtorEq] at hK ⊢
        obtain ⟨s1x, A1x, n1x, c1x, e1x, r1x⟩ := d1
        obtain ⟨s3x, A3x, n3x, c3x, e3x, r3x⟩ := d3
        obtain ⟨s6x, A6x, n6x, c6x, e6x, r6x⟩ := d6
        obtain ⟨s9x, A9x, n9x, c9x, e9x, r9x⟩ := d9
        obtain ⟨s12x, A12x, n12x, c12x, e12x, r12x⟩ := d12
        obtain ⟨s15x, A15x, n15x, c15x, e15x, r15x⟩ := d15
        simp only [e1x, e3x, e6x, e9x, e12x, e15x, d16, d17] at hK ⊢
        go_simp
        have hg8 := ((Below.refl W.heap.size W).alloc (Nat.le_refl _) (.cells (List.flatMap bigc [(s1x, A1x, n1x, c1x), (s3x, A3x, n3x, c3x), (s6x, A6x, n6x, c6x), (s9x, A9x, n9x, c9x), (s12x, A12x, n12x, c12x), (s15x, A15x, n15x, c15x), (s7, A7, n7, c7), (s8, A8, n8, c8)]).toArray 24))
        refine hK _ _ (hS.alloc hS.size _) ((Below.refl _ _).alloc (Nat.le_refl _) _) ?_
        refine ⟨_, [(s1x, A1x, n1x, c1x), (s3x, A3x, n3x, c3x), (s6x, A6x, n6x, c6x), (s9x, A9x, n9x, c9x), (s12x, A12x, n12x, c12x), (s15x, A15x, n15x, c15x), (s7, A7, n7, c7), (s8, A8, n8, c8)], rfl, rfl, Blk.new _ _ _, ?_⟩
        refine List.forall_mem_cons.2 ⟨?_, List.forall_mem_cons.2 ⟨?_, List.forall_mem_cons.2 ⟨?_, List.forall_mem_cons.2 ⟨?_, List.forall_mem_cons.2 ⟨?_, List.forall_mem_cons.2 ⟨?_, List.forall_mem_cons.2 ⟨?_, List.forall_mem_cons.2 ⟨?_, List.forall_mem_nil _⟩⟩⟩⟩⟩⟩⟩⟩
        · exact RV.below ⟨_, _, _, _, rfl, r1x⟩ hg8
        · exact RV.below ⟨_, _, _, _, rfl, r3x⟩ hg8
        · exact RV.below ⟨_, _, _, _, rfl, r6x⟩ hg8
        · exact RV.below ⟨_, _, _, _, rfl, r9x⟩ hg8
        · exact RV.below ⟨_, _, _, _, rfl, r12x⟩ hg8
        · exact RV.below ⟨_, _, _, _, rfl, r15x⟩ hg8
        · exact (V7.out.below hS).below hg8
        · exact (V8.out.below hS).below hg8
      · refine ⟨⟨some 52, _, _, _, _, _⟩, rfl, rfl, fun vs W K hS hd hK => ?_⟩
        obtain ⟨g, L, e18, _⟩ := hd 18 (by decide) (by decide +kernel)
        clear hd
        simp only [puts, List.foldl_cons, List.foldl_nil, Act.put, List.setIfInBounds_toArray, List.set_cons_zero, List.set_cons_succ, Nat.reduceAdd, Nat.reduceSub, Nat.reduceEqDiff, ↓reduceIte, reduceCtorEq] at hK ⊢
        simp only [e18] at hK ⊢
        go_simp
        exact hK _ _ hS (Below.refl _ _) rfl
      · refine ⟨⟨some 53, _, _, _, _, _⟩, rfl, rfl, fun vs W K hS hd hK => ?_⟩
        simp only [puts, List.foldl_cons, List.foldl_nil, Act.put, List.setIfInBounds_toArray, List.set_cons_zero, List.set_cons_succ, Nat.reduceAdd, Nat.reduceSub, Nat.reduceEqDiff, ↓reduceIte, reduceCtorEq] at hK ⊢
        go_simp
        exact hK _ _ hS (Below.refl _ _) rfl
    · intro vs W hS hd
      obtain ⟨gL, L8, e18, hl8, hkl, hrl⟩ := hd 18 (by decide)
      have d19 : vs 19 = .int .i64 8 := hd 19 (by decide)
      have d20 : vs 20 = .int .i64 0 := hd 20 (by decide)
      have KL := Lib.hid hkl
      have HRL := Lib.hid hrl
      have HLN := Lib.hid hl8
      clear hd hkl hrl hl8
      simp only [puts, List.foldl_cons, List.foldl_nil, Act.put, List.setIfInBounds_toArray, List.set_cons_zero, List.set_cons_succ, Nat.reduceAdd, Nat.reduceSub, Nat.reduceEqDiff, ↓reduceIte, reduceCtorEq]
      simp only [e18, d19, d20]
      clear hS0 e18 d19 d20 HVX HVY HVQ HVR
      clear k5_0 k5_1 k6_0 k6_1 k7_0 k7_1 k8_0 k8_1
      replace HBN := Lib.hid (HBN.out.trans (hS.mono HBZ.out))
      have HBY := Lib.hid (Nat.le_trans HBZ.out hS.size)
      clear HBZ HSZ
      have HBZ := HBY
      clear HBY
      replace K2 := Lib.hid (K2.out.below hS)
      replace K3 := Lib.hid (K3.out.below hS)
      replace HE := Lib.hid (HE.out.below hS)
      replace B0 := Lib.hid (B0.out.below hS)
      replace B1 := Lib.hid (B1.out.below hS)
      replace G0 := Lib.hid (G0.out.below hS)
      replace G1 := Lib.hid (G1.out.below hS)
      replace K5 := Lib.hid (K5.out.below hS)
      replace V5 := Lib.hid (V5.out.below hS)
      replace K6 := Lib.hid (K6.out.below hS)
      replace V6 := Lib.hid (V6.out.below hS)
      replace X5 := Lib.hid (X5.out.below hS)
      replace X6 := Lib.hid (X6.out.below hS)
      replace V7 := Lib.hid (V7.out.below hS)
      replace V8 := Lib.hid (V8.out.below hS)
      replace K7 := Lib.hid (K7.out.below hS)
      replace K8 := Lib.hid (K8.out.below hS)
      replace HB := Lib.hid (HB.out.trans (hS.mono HB.out.size))
      clear hS
      clear V7 V8 K7 K8
      go_wp2_with fail
      obtain ⟨WB, hWB⟩ : ∃ W0, W0 = W := ⟨_, rfl⟩
      rw [← hWB] at K2 K3 HE B0 B1 G0 G1 K5 V5 K6 V6 X5 X6 HB HBN HBZ HRL KL ⊢
      clear hWB
      go_loopw [53] (fun s53 wr => ∃ i : Nat, s53 = .int .i64 (i : Int) ∧ i ≤ 8 ∧ SpK B4 WB wr) (fun s53 _ => 8 - (intOf s53).toNat)
      case atStart => exact ⟨0, rfl, by decide, SpK.refl _ _⟩
      case round =>
        obtain ⟨i, rfl, hi, hk⟩ := hrel
        have HSK := Lib.hid hk
        clear hk
        by_cases hlt : i < 8
        · have hltI : (i : Int) < 8 := by omega
          have hlt0 : (0 : Int) ≤ (i : Int) := by omega
          obtain ⟨na, A, m, d, hx, c0, c1⟩ : ∃ na A m d, (na, A, m, d) ∈ L8 ∧ wr.cell? ⟨gL, i * 2, none⟩ = some (.bool na) ∧ wr.cell? ⟨gL, i * 2 + 1, none⟩ = some (.slice A m d) := by
            have hk8 : i < L8.length := by rw [HLN.out]; exact hlt
            obtain ⟨⟨na, A, m, d⟩, hx⟩ : ∃ x, L8[i] = x := ⟨_, rfl⟩
            have e := fun j hj => (flat_get bigc 2 (fun _ => rfl) L8 i j hk8 hj).trans (by rw [hx])
            have hK := HSK.out.blk _ _ _ (by decide) KL.out
            exact ⟨na, A, m, d, by rw [← hx]; exact List.getElem_mem hk8, (hK.cell _).trans (by rw [List.getElem?_toArray]; exact e 0 (by omega)), (hK.cell _).trans (by rw [List.getElem?_toArray]; exact e 1 (by omega))⟩
          have hrv := HRL.out _ hx
          have hrw : RV wr B4 (.agg #[.bool na, .slice A m d]) := by
            obtain ⟨s', A', n', c', e, h1, h2, h3⟩ := hrv
            exact ⟨s', A', n', c', e, HSK.out.row _ _ h1, h2, h3⟩
          obtain ⟨W9, hW9⟩ : ∃ W, W = wr.alloc (.cells #[.bool na, .slice A m d] 24) := ⟨_, rfl⟩
          have hb9 : Below wr.heap.size wr W9 := by rw [hW9]; exact (Below.refl _ _).alloc (Nat.le_refl _) _
          have hz9 : B4 ≤ wr.heap.size := Nat.le_trans HBZ.out HSK.out.below.size
          have CS := Lib.hid (spoil_any _ B4 W9 (hrw.below hb9) (Nat.le_trans hz9 hb9.size))
          have HS9 := Lib.hid (HSK.out.trans (SpK.grow hb9 hz9))
          have HW9 := Lib.hid hW9
          clear hx hrv hrw hb9 hz9 hW9
          go_wp2_with fail
          rw [← HW9.out]
          refine CS.out.mono ?_
          rintro e w10 ⟨rfl, hsp⟩
          have HSN := Lib.hid (HS9.out.trans hsp)
          clear hsp CS HS9 HW9 c0 c1
          go_wp2
          go_roundw
          case rel => exact ⟨i + 1, by go_num, by omega, HSN.out⟩
          case measure => simp only [intOf]; omega
        · obtain rfl : i = 8 := by omega
          have hlt2 : ¬ ((8 : Int) < 8) := by decide
          clear hlt hi
          have hbr : Below B4 WB wr := HSK.out.below
          have hb4 : Below u4.heap.size u4 wr := by rw [← HB4.out]; exact HBN.out.trans hbr
          replace K2 := Lib.hid (K24.out.below hb4)
          replace K3 := Lib.hid (K34.out.below hb4)
          replace K5 := Lib.hid (K54.out.below hb4)
          replace K6 := Lib.hid (K64.out.below hb4)
          replace G0 := Lib.hid (G04.out.below hb4)
          replace G1 := Lib.hid (G14.out.below hb4)
          replace V5 := Lib.hid (V54.out.below hb4)
          replace V6 := Lib.hid (V64.out.below hb4)
          replace X5 := Lib.hid (X54.out.below hb4)
          replace X6 := Lib.hid (X64.out.below hb4)
          replace HE := Lib.hid (HE4.out.below hb4)
          replace HB := Lib.hid (HBU.out.trans (hb4.mono HBU.out.size))
          clear hbr hb4 HSK
          have k5_0 : wr.cell? ⟨g5, 0, none⟩ = some (.bool x0) := K5.out.cell 0
          have k5_1 : wr.cell? ⟨g5, 1, none⟩ = some (.slice A5 n0 c5) := K5.out.cell 1
          have CF := Lib.hid (Format_any _ z0 8 wr X5.out (by decide) HE.out)
          go_wp2_with fail
          clear k5_0 k5_1
          refine (CF.out).mono ?_
          rintro e w6 ⟨rfl, hb⟩
          replace K2 := Lib.hid (K2.out.below hb)
          replace K3 := Lib.hid (K3.out.below hb)
          replace K5 := Lib.hid (K5.out.below hb)
          replace K6 := Lib.hid (K6.out.below hb)
          replace G0 := Lib.hid (G0.out.below hb)
          replace G1 := Lib.hid (G1.out.below hb)
          replace V5 := Lib.hid (V5.out.below hb)
          replace V6 := Lib.hid (V6.out.below hb)
          replace X5 := Lib.hid (X5.out.below hb)
          replace X6 := Lib.hid (X6.out.below hb)
          replace HE := Lib.hid (HE.out.below hb)
          replace HB := Lib.hid (HB.out.trans (hb.mono HB.out.size))
          clear hb
          clear CF
          have k5_0 : w6.cell? ⟨g5, 0, none⟩ = some (.bool x0) := K5.out.cell 0
          have k5_1 : w6.cell? ⟨g5, 1, none⟩ = some (.slice A5 n0 c5) := K5.out.cell 1
          have k6_0 : w6.cell? ⟨g6, 0, none⟩ = some (.bool x1) := K6.out.cell 0
          have k6_1 : w6.cell? ⟨g6, 1, none⟩ = some (.slice A6 n1 c6) := K6.out.cell 1
          have CF := Lib.hid (Compare_any _ _ z0 z1 8 w6 X5.out X6.out (by decide))
          go_wp2_with fail
          clear k5_0 k5_1 k6_0 k6_1
          refine (CF.out).mono ?_
          rintro e w7 ⟨rfl, hb⟩
          replace K2 := Lib.hid (K2.out.below hb)
          replace K3 := Lib.hid (K3.out.below hb)
          replace K5 := Lib.hid (K5.out.below hb)
          replace K6 := Lib.hid (K6.out.below hb)
          replace G0 := Lib.hid (G0.out.below hb)
          replace G1 := Lib.hid (G1.out.below hb)
          replace V5 := Lib.hid (V5.out.below hb)
          replace V6 := Lib.hid (V6.out.below hb)
          replace X5 := Lib.hid (X5.out.below hb)
          replace X6 := Lib.hid (X6.out.below hb)
          replace HE := Lib.hid (HE.out.below hb)
          replace HB := Lib.hid (HB.out.trans (hb.mono HB.out.size))
          clear hb
          clear CF
          go_upto_region 12 with fail
          have k2_0 : w7.cell? ⟨w.heap.size, 0, none⟩ = some (.bool x0) := K2.out.cell 0
          have k2_1 : w7.cell? ⟨w.heap.size, 1, none⟩ = some (.slice A0 n0 c0) := K2.out.cell 1
          have k3_0 : w7.cell? ⟨w.heap.size + 1, 0, none⟩ = some (.bool x1) := K3.out.cell 0
          have k3_1 : w7.cell? ⟨w.heap.size + 1, 1, none⟩ = some (.slice A1 n1 c1) := K3.out.cell 1
          have k5_0 : w7.cell? ⟨g5, 0, none⟩ = some (.bool x0) := K5.out.cell 0
          have k5_1 : w7.cell? ⟨g5, 1, none⟩ = some (.slice A5 n0 c5) := K5.out.cell 1
          have k6_0 : w7.cell? ⟨g6, 0, none⟩ = some (.bool x1) := K6.out.cell 0
          have k6_1 : w7.cell? ⟨g6, 1, none⟩ = some (.slice A6 n1 c6) := K6.out.cell 1
          go_wp2_with fail
          have hS0 : Below w7.heap.size w7 w7.drew := below_drew (Below.refl _ _)
          refine wp_region_mix 10 (fun w' => Below w7.heap.size w7 w') (by kernel_rfl) (by decide) ?_
          generalize w7.drew = y0 at hS0 ⊢
          refine wpM_take (i := 0) (oi := ⟨some 65, _, _, _, _, _⟩) (v := ?_) rfl (by decide +kernel) (by decide +kernel) (by decide +kernel) (fun _ _ _ h => h) (Or.inl ⟨by rfl, ?_⟩) hS0 ?_
          case refine_2 =>
            intro w' hSw
            have k5_0' := keepcell hSw k5_0
            have k5_1' := keepcell hSw k5_1
            go_simp
            try (with_reducible rfl)
          try simp only [Act.put, List.setIfInBounds_toArray, List.set_cons_zero, List.set_cons_succ]
          refine wpM_take (i := 1) (oi := ⟨some 66, _, _, _, _, _⟩) (v := ?_) rfl (by decide +kernel) (by decide +kernel) (by decide +kernel) (fun _ _ _ h => h) (Or.inl ⟨by rfl, ?_⟩) hS0 ?_
          case refine_2 =>
            intro w' hSw
            have k2_0' := keepcell hSw k2_0
            have k2_1' := keepcell hSw k2_1
            go_simp
            try (with_reducible rfl)
          try simp only [Act.put, List.setIfInBounds_toArray, List.set_cons_zero, List.set_cons_succ]
          refine wpM_step (i := 2) (o := ⟨some 67, _, _, _, _, _⟩) rfl (by decide +kernel) (by decide) (fun K hK => ?_)
          go_simp
          refine (cp_od y0 x0 A0 n0 c0 D0 (G0.out.below hS0) (by have := H8.out; omega)).mono ?_
          rintro e y8 ⟨v67, rfl, hv, hc⟩
          have hy8 : Below w7.heap.size w7 y8 := hS0.trans (hc.mono hS0.size)
          have P67 := Lib.hid hv
          clear hv
          refine hK.out _ _ hy8 ?_
          clear hK K
          try simp only [Act.put, List.setIfInBounds_toArray, List.set_cons_zero, List.set_cons_succ]
          refine wpM_step (i := 3) (o := ⟨some 68, _, _, _, _, _⟩) rfl (by decide +kernel) (by decide) (fun K hK => ?_)
          go_simp
          refine (Same_od (V5.out.below hy8) P67.out (by have := H8.out; omega)).mono ?_
          rintro e y9 ⟨rfl, hc⟩
          have hy9 : Below w7.heap.size w7 y9 := hy8.trans (hc.mono hy8.size)
          replace P67 := Lib.hid (P67.out.below hc)
          refine hK.out _ _ hy9 ?_
          clear hK K
          try simp only [Act.put, List.setIfInBounds_toArray, List.set_cons_zero, List.set_cons_succ]
          refine wpM_take (i := 4) (oi := ⟨some 69, _, _, _, _, _⟩) (v := ?_) rfl (by decide +kernel) (by decide +kernel) (by decide +kernel) (fun _ _ _ h => h) (Or.inl ⟨by rfl, ?_⟩) hy9 ?_
          case refine_2 =>
            intro w' hSw
            go_simp
            try (with_reducible rfl)
          try simp only [Act.put, List.setIfInBounds_toArray, List.set_cons_zero, List.set_cons_succ]
          refine wpM_take (i := 5) (oi := ⟨some 70, _, _, _, _, _⟩) (v := ?_) rfl (by decide +kernel) (by decide +kernel) (by decide +kernel) (fun _ _ _ h => h) (Or.inl ⟨by rfl, ?_⟩) hy9 ?_
          case refine_2 =>
            intro w' hSw
            have k6_0' := keepcell hSw k6_0
            have k6_1' := keepcell hSw k6_1
            go_simp
            try (with_reducible rfl)
          try simp only [Act.put, List.setIfInBounds_toArray, List.set_cons_zero, List.set_cons_succ]
          refine wpM_take (i := 6) (oi := ⟨some 71, _, _, _, _, _⟩) (v := ?_) rfl (by decide +kernel) (by decide +kernel) (by decide +kernel) (fun _ _ _ h => h) (Or.inl ⟨by rfl, ?_⟩) hy9 ?_
          case refine_2 =>
            intro w' hSw
            have k3_0' := keepcell hSw k3_0
            have k3_1' := keepcell hSw k3_1
            go_simp
            try (with_reducible rfl)
          try simp only [Act.put, List.setIfInBounds_toArray, List.set_cons_zero, List.set_cons_succ]
          refine wpM_step (i := 7) (o := ⟨some 72, _, _, _, _, _⟩) rfl (by decide +kernel) (by decide) (fun K hK => ?_)
          go_simp
          refine (cp_od y9 x1 A1 n1 c1 D1 (G1.out.below hy9) (by have := H8.out; omega)).mono ?_
          rintro e y10 ⟨v72, rfl, hv, hc⟩
          have hy10 : Below w7.heap.size w7 y10 := hy9.trans (hc.mono hy9.size)
          replace P67 := Lib.hid (P67.out.below hc)
          have P72 := Lib.hid hv
          clear hv
          refine hK.out _ _ hy10 ?_
          clear hK K
          try simp only [Act.put, List.setIfInBounds_toArray, List.set_cons_zero, List.set_cons_succ]
          refine wpM_step (i := 8) (o := ⟨some 73, _, _, _, _, _⟩) rfl (by decide +kernel) (by decide) (fun K hK => ?_)
          go_simp
          refine (Same_od (V6.out.below hy10) P72.out (by have := H8.out; omega)).mono ?_
          rintro e y11 ⟨rfl, hc⟩
          have hy11 : Below w7.heap.size w7 y11 := hy10.trans (hc.mono hy10.size)
          replace P67 := Lib.hid (P67.out.below hc)
          replace P72 := Lib.hid (P72.out.below hc)
          refine hK.out _ _ hy11 ?_
          clear hK K
          try simp only [Act.put, List.setIfInBounds_toArray, List.set_cons_zero, List.set_cons_succ]
          refine wpM_take (i := 9) (oi := ⟨some 74, _, _, _, _, _⟩) (v := ?_) rfl (by decide +kernel) (by decide +kernel) (by decide +kernel) (fun _ _ _ h => h) (Or.inl ⟨by rfl, ?_⟩) hy11 ?_
          case refine_2 =>
            intro w' hSw
            go_simp
            try (with_reducible rfl)
          try simp only [Act.put, List.setIfInBounds_toArray, List.set_cons_zero, List.set_cons_succ]
          refine wpM_done (by decide +kernel) ?_
          simp only [List.drop_succ_cons, List.drop_zero]
          have HF := Lib.hid (HB.out.trans (hy11.mono HB.out.size))
          go_wp2
          go_ret
          exact ⟨rfl, HF.out⟩
end Go.Proofs.YtndkcimdbidgaaaDoor
