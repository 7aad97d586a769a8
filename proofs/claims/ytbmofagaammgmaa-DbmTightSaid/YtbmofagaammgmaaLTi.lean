/- Law DbmTight: for every input the call returns true, and its arguments read afterwards as before. -/
import Derived.Test.YtbmofagaammgmaaDst
import Derived.Deep.Cut
namespace Go.Proofs.Ytbmofagaammgmaa
open Go.ChangeShapes Go.WideShapes Go.ChangeAt Go.RowKit Go.ChangeMaps

set_option maxRecDepth 100000 in
set_option maxHeartbeats 4000000 in
theorem dbmTight_walk (n : Int) (A : Option Addr) (m c : Nat) (R : List Rb) (x2 y2 : Int) (w : World) (li : -9223372036854775808 ≤ n) (gi : n ≤ 9223372036854775807) (k0 : At w A m 3 (R.flatMap Rb.cells)) (l0 : m ≤ 9223372036854775807) (g0 : ∀ x ∈ R, x.in) (l2 : 0 ≤ x2 ∧ x2 ≤ 255) (g2 : 0 ≤ y2 ∧ y2 ≤ 255) :
    Calls Try.prog 6 #[.int .i64 n, .slice A m c, .agg #[.int .u8 x2, .int .u8 y2]] w fun e w' => e = .returned (.bool true) ∧ Below w.heap.size w w' := by
  have HR := Lib.hid (show Rbs w A m R from k0)
  have HIN := Lib.hid g0
  clear k0 g0
  obtain ⟨kx, hkx⟩ : ∃ kx, kx = w.heap.size := ⟨_, rfl⟩
  obtain ⟨W0, hW0⟩ : ∃ W0, W0 = w.alloc (.cells #[.int .u8 x2, .int .u8 y2] 39) := ⟨_, rfl⟩
  have HB0 := Lib.hid (show Below w.heap.size w W0 by rw [hW0]; exact (Below.refl _ _).alloc (Nat.le_refl _) _)
  have KX0 := Lib.hid (show Blk W0 kx 39 #[.int .u8 x2, .int .u8 y2] by rw [hW0]; exact Blk.new_ hkx rfl)
  go_enter Try.func6, Try.ntmps6
  go_wp2_with fail
  rw [← hkx, ← hW0]
  clear hkx hW0
  refine (awake_any W0).mono ?_
  rintro e1 w1 ⟨rfl, hb1⟩
  have HBW := Lib.hid (HB0.out.trans (hb1.mono HB0.out.size))
  have KX1 := Lib.hid (KX0.out.below hb1)
  clear hb1 HB0 KX0
  go_wp2_with fail
  refine (small_any w1 n A m c).mono ?_
  rintro e2 x2 ⟨rfl, hx⟩
  subst x2
  by_cases hsm : n ≤ 10 ∧ m ≤ 40
  rotate_left 1
  · rw [show (decide (n ≤ 10) && decide (m ≤ 40)) = false by by_cases q1 : n ≤ 10 <;> by_cases q2 : m ≤ 40 <;> simp [q1, q2] <;> exact absurd ⟨q1, q2⟩ hsm]
    go_wp2
    go_ret
    exact ⟨rfl, HBW.out⟩
  obtain ⟨hn10, hm40⟩ := hsm
  rw [show (decide (n ≤ 10) && decide (m ≤ 40)) = true by simp [hn10, hm40]]
  by_cases hn0 : n < 0
  · go_wp2_with fail
    refine (built_bad w1 n (.inl hn0) A m c).mono ?_
    rintro e3 w3 ⟨rfl, hb3⟩
    have HB3 := Lib.hid (HBW.out.trans (hb3.mono HBW.out.size))
    clear hb3
    go_wp2
    go_ret
    exact ⟨rfl, HB3.out⟩
  obtain ⟨n, rfl⟩ : ∃ n' : Nat, n = (n' : Int) := ⟨n.toNat, by omega⟩
  have hn10 : n ≤ 10 := by omega
  go_wp2_with fail
  refine (built_any w1 n (by omega) A m c R (HR.out.below HBW.out) (by omega)).mono ?_
  rintro e3 w3 ⟨g, A', m', c', rfl, hM, hR, hmc, hb3⟩
  have HM3 := Lib.hid (show MX w3 w1.heap.size g n (bld n R) from hM)
  have HR3 := Lib.hid hR
  have HB3 := Lib.hid hb3
  have HMC := Lib.hid hmc
  have KX3 := Lib.hid (KX1.out.below hb3)
  have hml : m' ≤ 40 := by
    have h1 := hR.len
    have h2 := List.length_filter_le (okB n) R
    have h3 := HR.out.len
    omega
  clear hM hR hb3 hmc
  obtain ⟨xn, rfl⟩ : ∃ xn : Nat, x2 = (xn : Int) := ⟨x2.toNat, by omega⟩
  obtain ⟨yn, rfl⟩ : ∃ yn : Nat, y2 = (yn : Int) := ⟨y2.toNat, by omega⟩
  have hwx : IntKind.i64.wrap (xn : Int) = (xn : Int) := IntWalk.i64_in _ (by omega)
  have hwy : IntKind.i64.wrap (yn : Int) = (yn : Int) := IntWalk.i64_in _ (by omega)
  have hw1 : IntKind.i64.wrap ((n : Int) + 1) = (n : Int) + 1 := IntWalk.i64_in _ (by omega)
  have hrx : (xn : Int).tmod ((n : Int) + 1) = ((xn % (n + 1) : Nat) : Int) := rfl
  have hry : (yn : Int).tmod ((n : Int) + 1) = ((yn % (n + 1) : Nat) : Int) := rfl
  have hin : xn % (n + 1) ≤ n := Nat.le_of_lt_succ (Nat.mod_lt _ (by omega))
  have hjn : yn % (n + 1) ≤ n := Nat.le_of_lt_succ (Nat.mod_lt _ (by omega))
  generalize xn % (n + 1) = i at *
  generalize yn % (n + 1) = j at *
  have hwi : IntKind.i64.wrap (i : Int) = (i : Int) := IntWalk.i64_in _ (by omega)
  have hwj : IntKind.i64.wrap (j : Int) = (j : Int) := IntWalk.i64_in _ (by omega)
  have hz1 : ¬ ((n : Int) + 1 = 0) := by omega
  have hz2 : ((n : Int) + 1 == 0) = false := by simpa using hz1
  have HSG := Lib.hid (bld_sg n R)
  have HSY := Lib.hid (bld_of n R)
  obtain ⟨s, hs⟩ : ∃ s, bld n R = s := ⟨_, rfl⟩
  rw [hs] at HM3 HSG HSY
  clear hs
  obtain ⟨i0, hi, hq0, hq1, hq2⟩ := info_parts Try.info41
  have HI := Lib.hid hi
  have HZ0 := Lib.hid hq0
  have HZ1 := Lib.hid hq1
  have HZ2 := Lib.hid hq2
  clear hi hq0 hq1 hq2
  go_upto_region 8 with fail
  have d0 : w3.cell? ⟨kx, 0, none⟩ = some (.int .u8 (xn : Int)) := KX3.out.cell 0
  have d1 : w3.cell? ⟨kx, 1, none⟩ = some (.int .u8 (yn : Int)) := KX3.out.cell 1
  have hb0 : Below w3.heap.size w3 w3.drew := below_drew (Below.refl _ _)
  refine wp_region_mixE (fun w' => Below w3.heap.size w3 w') (by kernel_rfl) ?_
  have HMD := Lib.hid (HM3.out.below hb0)
  have HRD := Lib.hid (HR3.out.below hb0)
  have HBD := Lib.hid (HB3.out.trans (hb0.mono HB3.out.size))
  generalize w3.drew = y0 at hb0 HMD HRD HBD ⊢
  refine wpE_take (i := 0) (oi := ⟨some 40, _, _, _, _, _⟩) (v := ?_) rfl (by decide +kernel) (by decide +kernel) (by decide +kernel) (fun _ _ _ h => h) (Or.inl ⟨by rfl, ?_⟩) hb0 ?_
  case refine_2 =>
    intro w' hSw
    have d0' := keepcell hSw d0
    have d1' := keepcell hSw d1
    go_simp
    try (with_reducible rfl)
  try simp only [Act.put, List.setIfInBounds_toArray, List.set_cons_zero, List.set_cons_succ]
  refine wpE_take (i := 1) (oi := ⟨some 41, _, _, _, _, _⟩) (v := ?_) rfl (by decide +kernel) (by decide +kernel) (by decide +kernel) (fun _ _ _ h => h) (Or.inl ⟨by rfl, ?_⟩) hb0 ?_
  case refine_2 =>
    intro w' hSw
    have d0' := keepcell hSw d0
    have d1' := keepcell hSw d1
    go_simp
    try (with_reducible rfl)
  try simp only [Act.put, List.setIfInBounds_toArray, List.set_cons_zero, List.set_cons_succ]
  refine wpE_take (i := 2) (oi := ⟨some 42, _, _, _, _, _⟩) (v := ?_) rfl (by decide +kernel) (by decide +kernel) (by decide +kernel) (fun _ _ _ h => h) (Or.inl ⟨by rfl, ?_⟩) hb0 ?_
  case refine_2 =>
    intro w' hSw
    have d0' := keepcell hSw d0
    have d1' := keepcell hSw d1
    go_simp
    try (with_reducible rfl)
  try simp only [Act.put, List.setIfInBounds_toArray, List.set_cons_zero, List.set_cons_succ]
  refine wpE_take (i := 3) (oi := ⟨some 43, _, _, _, _, _⟩) (v := ?_) rfl (by decide +kernel) (by decide +kernel) (by decide +kernel) (fun _ _ _ h => h) (Or.inl ⟨by rfl, ?_⟩) hb0 ?_
  case refine_2 =>
    intro w' hSw
    have d0' := keepcell hSw d0
    have d1' := keepcell hSw d1
    go_simp
    try (with_reducible rfl)
  try simp only [Act.put, List.setIfInBounds_toArray, List.set_cons_zero, List.set_cons_succ]
  refine wpE_take (i := 4) (oi := ⟨some 44, _, _, _, _, _⟩) (v := ?_) rfl (by decide +kernel) (by decide +kernel) (by decide +kernel) (fun _ _ _ h => h) (Or.inl ⟨by rfl, ?_⟩) hb0 ?_
  case refine_2 =>
    intro w' hSw
    have d0' := keepcell hSw d0
    have d1' := keepcell hSw d1
    go_simp
    try (with_reducible rfl)
  try simp only [Act.put, List.setIfInBounds_toArray, List.set_cons_zero, List.set_cons_succ]
  refine wpE_take (i := 5) (oi := ⟨some 45, _, _, _, _, _⟩) (v := ?_) rfl (by decide +kernel) (by decide +kernel) (by decide +kernel) (fun _ _ _ h => h) (Or.inl ⟨by rfl, ?_⟩) hb0 ?_
  case refine_2 =>
    intro w' hSw
    have d0' := keepcell hSw d0
    have d1' := keepcell hSw d1
    go_simp
    try (with_reducible rfl)
  try simp only [Act.put, List.setIfInBounds_toArray, List.set_cons_zero, List.set_cons_succ]
  refine wpE_take (i := 6) (oi := ⟨some 46, _, _, _, _, _⟩) (v := ?_) rfl (by decide +kernel) (by decide +kernel) (by decide +kernel) (fun _ _ _ h => h) (Or.inl ⟨by rfl, ?_⟩) hb0 ?_
  case refine_2 =>
    intro w' hSw
    have d0' := keepcell hSw d0
    have d1' := keepcell hSw d1
    go_simp
    try (with_reducible rfl)
  try simp only [Act.put, List.setIfInBounds_toArray, List.set_cons_zero, List.set_cons_succ]
  refine wpE_take (i := 7) (oi := ⟨some 47, _, _, _, _, _⟩) (v := ?_) rfl (by decide +kernel) (by decide +kernel) (by decide +kernel) (fun _ _ _ h => h) (Or.inl ⟨by rfl, ?_⟩) hb0 ?_
  case refine_2 =>
    intro w' hSw
    have d0' := keepcell hSw d0
    have d1' := keepcell hSw d1
    go_simp
    try (with_reducible rfl)
  try simp only [Act.put, List.setIfInBounds_toArray, List.set_cons_zero, List.set_cons_succ]
  refine wpE_take (i := 8) (oi := ⟨some 48, _, _, _, _, _⟩) (v := ?_) rfl (by decide +kernel) (by decide +kernel) (by decide +kernel) (fun _ _ _ h => h) (Or.inl ⟨by rfl, ?_⟩) hb0 ?_
  case refine_2 =>
    intro w' hSw
    have d0' := keepcell hSw d0
    have d1' := keepcell hSw d1
    go_simp
    try (with_reducible rfl)
  try simp only [Act.put, List.setIfInBounds_toArray, List.set_cons_zero, List.set_cons_succ]
  refine wpE_take (i := 9) (oi := ⟨some 49, _, _, _, _, _⟩) (v := ?_) rfl (by decide +kernel) (by decide +kernel) (by decide +kernel) (fun _ _ _ h => h) (Or.inl ⟨by rfl, ?_⟩) hb0 ?_
  case refine_2 =>
    intro w' hSw
    have d0' := keepcell hSw d0
    have d1' := keepcell hSw d1
    go_simp
    try (with_reducible rfl)
  try simp only [Act.put, List.setIfInBounds_toArray, List.set_cons_zero, List.set_cons_succ]
  refine wpE_take (i := 10) (oi := ⟨some 50, _, _, _, _, _⟩) (v := ?_) rfl (by decide +kernel) (by decide +kernel) (by decide +kernel) (fun _ _ _ h => h) (Or.inl ⟨by rfl, ?_⟩) hb0 ?_
  case refine_2 =>
    intro w' hSw
    have d0' := keepcell hSw d0
    have d1' := keepcell hSw d1
    go_simp
    try (with_reducible rfl)
  try simp only [Act.put, List.setIfInBounds_toArray, List.set_cons_zero, List.set_cons_succ]
  refine wpE_take (i := 11) (oi := ⟨some 51, _, _, _, _, _⟩) (v := ?_) rfl (by decide +kernel) (by decide +kernel) (by decide +kernel) (fun _ _ _ h => h) (Or.inl ⟨by rfl, ?_⟩) hb0 ?_
  case refine_2 =>
    intro w' hSw
    have d0' := keepcell hSw d0
    have d1' := keepcell hSw d1
    go_simp
    try (with_reducible rfl)
  try simp only [Act.put, List.setIfInBounds_toArray, List.set_cons_zero, List.set_cons_succ]
  refine wpE_take (i := 12) (oi := ⟨some 10, _, _, _, _, _⟩) (v := ?_) rfl (by decide +kernel) (by decide +kernel) (by decide +kernel) (fun _ _ _ h => h) (Or.inl ⟨by rfl, ?_⟩) hb0 ?_
  case refine_2 =>
    intro w' hSw
    go_simp
    try (with_reducible rfl)
  try simp only [Act.put, List.setIfInBounds_toArray, List.set_cons_zero, List.set_cons_succ]
  refine wpE_take (i := 13) (oi := ⟨some 11, _, _, _, _, _⟩) (v := ?_) rfl (by decide +kernel) (by decide +kernel) (by decide +kernel) (fun _ _ _ h => h) (Or.inl ⟨by rfl, ?_⟩) hb0 ?_
  case refine_2 =>
    intro w' hSw
    go_simp
    try (with_reducible rfl)
  try simp only [Act.put, List.setIfInBounds_toArray, List.set_cons_zero, List.set_cons_succ]
  refine wpE_done (by decide +kernel) ?_
  clear d0 d1 hb0 HM3 HR3 HB3 KX3 hwx hwy hrx hry hwi hwj hz1 hz2 hw1
  go_wp2_with fail
  refine (Bound_any y0 w1.heap.size g n s HMD.out (i : Int) (j : Int)).mono ?_
  rintro e5 w5 ⟨rfl, hb5⟩
  have HB5 := Lib.hid (HBD.out.trans (hb5.mono HBD.out.size))
  have HR5 := Lib.hid (HRD.out.below hb5)
  clear hb5 HMD HRD HBD
  cases hT : bndM s n (i : Int) (j : Int) with
  | none =>
    unfold bdA
    dsimp only [Option.getD_none, Option.isSome_none]
    clear hT
    go_wp2
    go_ret
    exact ⟨rfl, HBW.out.trans (HB5.out.mono HBW.out.size)⟩
  | some a =>
    unfold bdA
    dsimp only [Option.getD_some, Option.isSome_some]
    by_cases ha1 : a < -562949953421312
    · clear hT
      go_wp2
      go_ret
      exact ⟨rfl, HBW.out.trans (HB5.out.mono HBW.out.size)⟩
    by_cases ha2 : a > 562949953421312
    · clear hT
      go_wp2
      go_ret
      exact ⟨rfl, HBW.out.trans (HB5.out.mono HBW.out.size)⟩
    have hwa : IntKind.i64.wrap (-a) = -a := IntWalk.i64_in _ (by omega)
    have hwb : IntKind.i64.wrap (-a - 1) = -a - 1 := IntWalk.i64_in _ (by omega)
    have HOKa := Lib.hid (show okL n (R.filter (okB n) ++ [⟨j, i, -a⟩]) = okL n R ++ [⟨j, i, -a⟩] from (okL_add n R ⟨j, i, -a⟩ (by unfold okB; exact decide_eq_true (addE_zero (by dsimp only; omega) (by dsimp only; omega) (by dsimp only; omega)))).trans (by unfold toBd; simp))
    have HOKb := Lib.hid (show okL n (R.filter (okB n) ++ [⟨j, i, -a - 1⟩]) = okL n R ++ [⟨j, i, -a - 1⟩] from (okL_add n R ⟨j, i, -a - 1⟩ (by unfold okB; exact decide_eq_true (addE_zero (by dsimp only; omega) (by dsimp only; omega) (by dsimp only; omega)))).trans (by unfold toBd; simp))
    have HSA := Lib.hid (show satM (bld n (R.filter (okB n) ++ [⟨j, i, -a⟩])) n = true from satM_t ((sat_iff (bld_sg n _) (bld_of n _)).2 (by rw [HOKa.out]; exact tight_sat HSG.out HSY.out hT)))
    have HSB := Lib.hid (show satM (bld n (R.filter (okB n) ++ [⟨j, i, -a - 1⟩])) n = false from satM_f (fun h => tight_no HSY.out hT (by rw [← HOKb.out]; exact (sat_iff (bld_sg n _) (bld_of n _)).1 h)))
    clear hT HOKa HOKb
    have hleA : Below w5.heap.size w5 (w5.alloc (.cells #[] 41)) := (Below.refl _ _).alloc (Nat.le_refl _) _
    have HEA := Lib.hid (show (w5.alloc (.cells #[] 41)).heap[w5.heap.size]? = some (.cells #[] 41 (0, 0)) from Blk.new _ _ _)
    have HRA := Lib.hid (HR5.out.below hleA)
    have HLA := Lib.hid hleA
    clear hleA
    go_wp2_with (at_builtin; go_loud (refine wpList_append_new _ rfl _ _ 22 22 rfl w5.heap.size 41 i0 _ 3 24 Try.underlying22 HI.out HZ0.out HZ1.out HZ2.out rfl w5.heap.size (Nat.le_refl _) rfl HEA.out _ m' ((R.filter (okB n)).flatMap Rb.cells) rfl (At.src Try.underlying22 HRA.out (rb_one _) (by decide)) (by unfold maxLen; omega) (by omega) ?_))
    intro vA xA ownA hbA
    have HOA := Lib.hid ownA
    have HBxA := Lib.hid (HLA.out.trans (hbA.mono (by omega)))
    obtain ⟨AxA, cxA, rfl, -⟩ := At.of_own ownA
    clear ownA hbA HLA HRA HEA
    have hbaA : Below xA.heap.size xA (xA.alloc (.cells #[.int .i64 (j : Int), .int .i64 (i : Int), .int .i64 (-a)] 41)) := (Below.refl _ _).alloc (Nat.le_refl _) _
    have HOaA := Lib.hid (own_below HOA.out hbaA)
    have HBaA := Lib.hid (HBxA.out.trans (hbaA.mono HBxA.out.size))
    have HSA := Lib.hid (src_blk (P := Try.prog) (c := 1) (n := 1) (size := 3) (xs := Rb.cells ⟨j, i, -a⟩) Try.underlying22 rfl (fun u hu => rb_one [⟨j, i, -a⟩] u (by simpa using hu)) (show Blk (xA.alloc (.cells #[.int .i64 (j : Int), .int .i64 (i : Int), .int .i64 (-a)] 41)) xA.heap.size 41 _ from Blk.new _ _ _))
    clear hbaA HOA HBxA
    go_wp2_with (at_builtin; go_loud (refine wpList_append_src _ rfl _ _ 22 22 rfl w5.heap.size 41 i0 _ 3 24 Try.underlying22 HI.out HZ0.out HZ1.out HZ2.out rfl _ m' ((R.filter (okB n)).flatMap Rb.cells) rfl HOaA.out _ 1 (Rb.cells ⟨j, i, -a⟩) rfl HSA.out (by unfold maxLen; omega) (by omega) HBaA.out.size ?_))
    intro vA' zA ownA hgA _
    have HBzA := Lib.hid (grown_below HBaA.out HBaA.out.size HOaA.out hgA)
    obtain ⟨AzA, czA, rfl, hatA, -⟩ := At.of_own ownA
    have HRzA := Lib.hid (show Rbs zA AzA (m' + 1) (R.filter (okB n) ++ [⟨j, i, -a⟩]) by
      unfold Rbs
      rw [List.flatMap_append]
      exact hatA)
    clear ownA hgA hatA HOaA HBaA HSA
    go_wp2_with fail
    refine (built_any _ n (by omega) _ (m' + 1) _ _ HRzA.out (by omega)).mono ?_
    rintro eA wA ⟨ga, Aa, ma, ca, rfl, hM, -, -, hbA⟩
    have HMA := Lib.hid (show MX wA _ ga n (bld n (R.filter (okB n) ++ [⟨j, i, -a⟩])) from hM)
    have HB5A := HBzA.out.trans (hbA.mono HBzA.out.size)
    have HRA := Lib.hid (HR5.out.below HB5A)
    have HBA := Lib.hid (HB5.out.trans (HB5A.mono HB5.out.size))
    clear hM hbA HBzA HRzA HB5A HR5 HB5
    have hleB : Below wA.heap.size wA (wA.alloc (.cells #[] 41)) := (Below.refl _ _).alloc (Nat.le_refl _) _
    have HEB := Lib.hid (show (wA.alloc (.cells #[] 41)).heap[wA.heap.size]? = some (.cells #[] 41 (0, 0)) from Blk.new _ _ _)
    have HRB := Lib.hid (HRA.out.below hleB)
    have HLB := Lib.hid hleB
    clear hleB
    go_wp2_with (at_builtin; go_loud (refine wpList_append_new _ rfl _ _ 22 22 rfl wA.heap.size 41 i0 _ 3 24 Try.underlying22 HI.out HZ0.out HZ1.out HZ2.out rfl wA.heap.size (Nat.le_refl _) rfl HEB.out _ m' ((R.filter (okB n)).flatMap Rb.cells) rfl (At.src Try.underlying22 HRB.out (rb_one _) (by decide)) (by unfold maxLen; omega) (by omega) ?_))
    intro vB xB ownB hbB
    have HOB := Lib.hid ownB
    have HBxB := Lib.hid (HLB.out.trans (hbB.mono (by omega)))
    obtain ⟨AxB, cxB, rfl, -⟩ := At.of_own ownB
    clear ownB hbB HLB HRB HEB
    have hbaB : Below xB.heap.size xB (xB.alloc (.cells #[.int .i64 (j : Int), .int .i64 (i : Int), .int .i64 (-a - 1)] 41)) := (Below.refl _ _).alloc (Nat.le_refl _) _
    have HOaB := Lib.hid (own_below HOB.out hbaB)
    have HBaB := Lib.hid (HBxB.out.trans (hbaB.mono HBxB.out.size))
    have HSB := Lib.hid (src_blk (P := Try.prog) (c := 1) (n := 1) (size := 3) (xs := Rb.cells ⟨j, i, -a - 1⟩) Try.underlying22 rfl (fun u hu => rb_one [⟨j, i, -a - 1⟩] u (by simpa using hu)) (show Blk (xB.alloc (.cells #[.int .i64 (j : Int), .int .i64 (i : Int), .int .i64 (-a - 1)] 41)) xB.heap.size 41 _ from Blk.new _ _ _))
    clear hbaB HOB HBxB
    go_wp2_with (at_builtin; go_loud (refine wpList_append_src _ rfl _ _ 22 22 rfl wA.heap.size 41 i0 _ 3 24 Try.underlying22 HI.out HZ0.out HZ1.out HZ2.out rfl _ m' ((R.filter (okB n)).flatMap Rb.cells) rfl HOaB.out _ 1 (Rb.cells ⟨j, i, -a - 1⟩) rfl HSB.out (by unfold maxLen; omega) (by omega) HBaB.out.size ?_))
    intro vB' zB ownB hgB _
    have HBzB := Lib.hid (grown_below HBaB.out HBaB.out.size HOaB.out hgB)
    obtain ⟨AzB, czB, rfl, hatB, -⟩ := At.of_own ownB
    have HRzB := Lib.hid (show Rbs zB AzB (m' + 1) (R.filter (okB n) ++ [⟨j, i, -a - 1⟩]) by
      unfold Rbs
      rw [List.flatMap_append]
      exact hatB)
    clear ownB hgB hatB HOaB HBaB HSB
    go_wp2_with fail
    refine (built_any _ n (by omega) _ (m' + 1) _ _ HRzB.out (by omega)).mono ?_
    rintro eB wB ⟨gb, Ab, mb, cb, rfl, hM, -, -, hbB⟩
    have HMB := Lib.hid (show MX wB _ gb n (bld n (R.filter (okB n) ++ [⟨j, i, -a - 1⟩])) from hM)
    have HBAB := HBzB.out.trans (hbB.mono HBzB.out.size)
    have HMA2 := Lib.hid (HMA.out.below HBAB)
    have HBB := Lib.hid (HBA.out.trans (HBAB.mono HBA.out.size))
    clear hM hbB HBzB HRzB HBAB HRA HBA HMA
    go_wp2_with fail
    refine (Sat_any wB _ ga n _ HMA2.out).mono ?_
    rintro eC wC ⟨rfl, hbC⟩
    rw [HSA.out]
    have HMC2 := Lib.hid (HMB.out.below hbC)
    have HBC := Lib.hid (HBB.out.trans (hbC.mono HBB.out.size))
    clear hbC
    go_wp2_with fail
    refine (Sat_any wC _ gb n _ HMC2.out).mono ?_
    rintro eD wD ⟨rfl, hbD⟩
    rw [HSB.out]
    have HBD := Lib.hid (HBC.out.trans (hbD.mono HBC.out.size))
    clear hbD
    go_wp2
    go_ret
    exact ⟨rfl, HBW.out.trans (HBD.out.mono HBW.out.size)⟩

set_option maxRecDepth 100000 in
theorem dbmTight_lifted (os : Os) (started : os.Started) (H : Type) (enc : TypeId × Value → H) :
    ReturnsInHanded {} Try.checked os 6 .any (Rows.dbmTightSpec.pre6 enc Try.prog Try.f6 Rows.dbmTightRow.domain false) (Rows.dbmTightSpec.post enc Try.prog Try.f6 false true false false) := by
  refine law_lifted (C := Try.checked) (B := 4) Try.own started (by kernel_rfl) Try.func6
    (ChangeSpec.witness6 (enc := enc) (C := Try.checked) false ⟨#[], #[.int .i64 0, .slice none 0 0, .agg #[.int .u8 0, .int .u8 0]], []⟩ 8 (by kernel_rfl) (by kernel_rfl) (by kernel_rfl) (by kernel_rfl))
    Try.laidOut (by kernel_rfl) rfl rfl rfl Try.underlying4 (fun ds h => match ds, h with | [_, _, _], _ => rfl) ?_
  intro W base args ds ps hval hA hlt hsz
  rw [Try.params6] at hA hval hsz
  obtain ⟨v0, vs0, d0, ds0, p0, q0, hargs, rfl, rfl, h0, r0⟩ := trodAll_cons hA
  obtain ⟨v1, vs1, d1, ds1, p1, q1, rfl, rfl, rfl, h1, r1⟩ := trodAll_cons r0
  obtain ⟨v2, vs2, d2, ds2, p2, q2, rfl, rfl, rfl, h2, r2⟩ := trodAll_cons r1
  obtain ⟨rfl, rfl, rfl⟩ := trodAll_nil r2
  obtain rfl : args = #[v0, v1, v2] := by cases args; simp_all
  obtain ⟨a0, rfl, rfl, rfl, w0⟩ := open_int Try.underlying3 (hval 0 3 v0 rfl rfl) h0
  obtain ⟨l0, g0⟩ := i64_bd w0
  obtain ⟨A1, n1, c1, R1, rfl, k1, l1, g1⟩ := open_bds (hval 1 22 v1 rfl rfl) h1 (fun x hx => hlt x (by simp [hx])) hsz (j := 1) rfl rfl
  obtain ⟨x2, y2, rfl, l2, g2⟩ := open_arr2 (hval 2 39 v2 rfl rfl) h2
  exact dbmTight_walk a0 A1 n1 c1 R1 x2 y2 W l0 g0 k1 l1 g1 l2 g2

theorem dbmTight_over : Rows.dbmTightRow.holds Try.pinned (OpenSpec.ofChange Rows.dbmTightSpec) :=
  OpenClaim.holds_of_wide 6 Try.f6 rfl rfl rfl rfl rfl rfl rfl ⟨rfl, rfl, rfl, rfl, rfl⟩ rfl rfl rfl rfl rfl (by kernel_rfl) Try.func6 (by kernel_rfl)
    (of_decide_eq_true (by kernel_rfl)) (by unfold Func.isWrapper; first | (rw [if_pos (by decide +kernel)]; kernel_rfl) | (rw [if_neg (by decide +kernel)]; exact ⟨rfl, rfl⟩))
    (fun os started H enc _ => dbmTight_lifted os started H enc)

theorem dbmTight_proved : Rows.DbmTightSaid := dbmTight_over
end Go.Proofs.Ytbmofagaammgmaa
