/- Law BoxCommon: for every input the call returns true, and its arguments read afterwards as before. -/
import Derived.Test.YtcocdhndhlegiaaAwk
import Derived.Test.YtcocdhndhlegiaaOpn
import Derived.Test.YtcocdhndhlegiaaChn
import Derived.Test.YtcocdhndhlegiaaApf
import Derived.Test.YtcocdhndhlegiaaSrg
import Derived.Test.YtcocdhndhlegiaaSpv
namespace Go.Proofs.Ytcocdhndhlegiaa
open Go.ChangeShapes Go.WideShapes Go.ChangeAt Go.RowKit Go.ChangeMaps

set_option maxRecDepth 100000 in
set_option maxHeartbeats 4000000 in
theorem boxCommon_walk (t0 : Int) (A0 : Option Addr) (n0 c0 : Nat) (R0 : List Sd) (t1 : Int) (A1 : Option Addr) (n1 c1 : Nat) (R1 : List Sd) (A2 : Option Addr) (n2 c2 : Nat) (R2 : List V3) (w : World) (h0 : Sds w A0 n0 R0 ∧ n0 ≤ c0 ∧ c0 ≤ 9223372036854775807 ∧ ∀ x ∈ R0, x.in) (h1 : Sds w A1 n1 R1 ∧ n1 ≤ c1 ∧ c1 ≤ 9223372036854775807 ∧ ∀ x ∈ R1, x.in) (k2 : Vls w A2 n2 R2) (l2 : n2 ≤ 9223372036854775807) (g2 : ∀ x ∈ R2, x.in) : Calls Try.prog 5 #[.agg #[.int .i64 t0, .slice A0 n0 c0], .agg #[.int .i64 t1, .slice A1 n1 c1], .slice A2 n2 c2] w fun e w' => e = .returned (.bool true) ∧ Below w.heap.size w w' := by
  have L0 := Lib.hid h0.1.len
  have L1 := Lib.hid h1.1.len
  have L2 := Lib.hid k2.len
  have HL2 := Lib.hid l2
  obtain ⟨h0, p0, q0, r0⟩ := h0
  obtain ⟨o0, ho0⟩ : ∃ x, boxOk R0 = x := ⟨_, rfl⟩
  have HO0 := Lib.hid ho0
  have C0 := Lib.hid (fun W (hW : Below w.heap.size w W) => Right_any t0 A0 n0 c0 R0 W (h0.below hW) (by omega) (fun x hx => by have := r0 x hx; unfold Sd.in at this; omega))
  simp only [ho0] at C0
  have H0 := Lib.hid (fun W (hW : Below w.heap.size w W) => h0.below hW)
  clear h0 p0 q0 r0 ho0
  obtain ⟨h1, p1, q1, r1⟩ := h1
  obtain ⟨o1, ho1⟩ : ∃ x, boxOk R1 = x := ⟨_, rfl⟩
  have HO1 := Lib.hid ho1
  have C1 := Lib.hid (fun W (hW : Below w.heap.size w W) => Right_any t1 A1 n1 c1 R1 W (h1.below hW) (by omega) (fun x hx => by have := r1 x hx; unfold Sd.in at this; omega))
  simp only [ho1] at C1
  have H1 := Lib.hid (fun W (hW : Below w.heap.size w W) => h1.below hW)
  clear h1 p1 q1 r1 ho1
  obtain ⟨o2, ho2⟩ : ∃ x, rowOk R2 = x := ⟨_, rfl⟩
  have HO2 := Lib.hid ho2
  have C2 := Lib.hid (fun W (hW : Below w.heap.size w W) => valid_any A2 n2 c2 R2 W (k2.below hW) (fun x hx => by have := g2 x hx; unfold V3.in at this; unfold V3.ok; omega) l2)
  simp only [ho2] at C2
  have H2 := Lib.hid (fun W (hW : Below w.heap.size w W) => k2.below hW)
  clear k2 l2 g2 ho2
  obtain ⟨w0, hw0⟩ : ∃ W, W = ((w.alloc (.cells #[.int .i64 t0, .slice A0 n0 c0] 24)).alloc (.cells #[.int .i64 t1, .slice A1 n1 c1] 24)) := ⟨_, rfl⟩
  have HB := Lib.hid (show Below w.heap.size w w0 by rw [hw0]; exact (((Below.refl _ w).alloc (Nat.le_refl _) _).alloc (by simp) _))
  have K0 := Lib.hid (show Blk w0 (w.heap.size + 0) 24 #[.int .i64 t0, .slice A0 n0 c0] by rw [hw0]; exact (Blk.new_ (by simp) rfl : Blk (w.alloc _) _ _ _).alloc _)
  have K1 := Lib.hid (show Blk w0 (w.heap.size + 1) 24 #[.int .i64 t1, .slice A1 n1 c1] by rw [hw0]; exact Blk.new_ (by simp) rfl)
  go_enter Try.func5, Try.ntmps5
  go_wp2_with fail
  rw [← hw0]
  clear hw0
  refine (awake_any _).mono ?_
  rintro e x1 ⟨rfl, hb⟩
  replace HB := Lib.hid (HB.out.trans (hb.mono HB.out.size))
  replace K0 := Lib.hid (K0.out.below hb)
  replace K1 := Lib.hid (K1.out.below hb)
  clear hb
  have c0_0 : x1.cell? ⟨w.heap.size, 0, none⟩ = some (.int .i64 t0) := K0.out.cell 0
  have c0_1 : x1.cell? ⟨w.heap.size, 1, none⟩ = some (.slice A0 n0 c0) := K0.out.cell 1
  have c1_0 : x1.cell? ⟨w.heap.size + 1, 0, none⟩ = some (.int .i64 t1) := K1.out.cell 0
  have c1_1 : x1.cell? ⟨w.heap.size + 1, 1, none⟩ = some (.slice A1 n1 c1) := K1.out.cell 1
  go_wp2_with fail
  clear c0_0 c0_1 c1_0 c1_1
  refine (C0.out _ HB.out).mono ?_
  rintro e x2 ⟨rfl, hb⟩
  replace HB := Lib.hid (HB.out.trans (hb.mono HB.out.size))
  replace K0 := Lib.hid (K0.out.below hb)
  replace K1 := Lib.hid (K1.out.below hb)
  clear hb
  cases o0
  · go_wp2_with fail
    refine (awake_any _).mono ?_
    rintro e y1 ⟨rfl, hb⟩
    replace HB := Lib.hid (HB.out.trans (hb.mono HB.out.size))
    clear hb
    go_wp2
    go_ret
    exact ⟨rfl, HB.out⟩
  have c0_0 : x2.cell? ⟨w.heap.size, 0, none⟩ = some (.int .i64 t0) := K0.out.cell 0
  have c0_1 : x2.cell? ⟨w.heap.size, 1, none⟩ = some (.slice A0 n0 c0) := K0.out.cell 1
  have c1_0 : x2.cell? ⟨w.heap.size + 1, 0, none⟩ = some (.int .i64 t1) := K1.out.cell 0
  have c1_1 : x2.cell? ⟨w.heap.size + 1, 1, none⟩ = some (.slice A1 n1 c1) := K1.out.cell 1
  go_wp2_with fail
  clear c0_0 c0_1 c1_0 c1_1
  refine (C1.out _ HB.out).mono ?_
  rintro e x3 ⟨rfl, hb⟩
  replace HB := Lib.hid (HB.out.trans (hb.mono HB.out.size))
  replace K0 := Lib.hid (K0.out.below hb)
  replace K1 := Lib.hid (K1.out.below hb)
  clear hb
  cases o1
  · go_wp2_with fail
    refine (awake_any _).mono ?_
    rintro e y1 ⟨rfl, hb⟩
    replace HB := Lib.hid (HB.out.trans (hb.mono HB.out.size))
    clear hb
    go_wp2
    go_ret
    exact ⟨rfl, HB.out⟩
  have c0_0 : x3.cell? ⟨w.heap.size, 0, none⟩ = some (.int .i64 t0) := K0.out.cell 0
  have c0_1 : x3.cell? ⟨w.heap.size, 1, none⟩ = some (.slice A0 n0 c0) := K0.out.cell 1
  have c1_0 : x3.cell? ⟨w.heap.size + 1, 0, none⟩ = some (.int .i64 t1) := K1.out.cell 0
  have c1_1 : x3.cell? ⟨w.heap.size + 1, 1, none⟩ = some (.slice A1 n1 c1) := K1.out.cell 1
  go_wp2_with fail
  clear c0_0 c0_1 c1_0 c1_1
  refine (C2.out _ HB.out).mono ?_
  rintro e x4 ⟨rfl, hb⟩
  replace HB := Lib.hid (HB.out.trans (hb.mono HB.out.size))
  replace K0 := Lib.hid (K0.out.below hb)
  replace K1 := Lib.hid (K1.out.below hb)
  clear hb
  cases o2
  · go_wp2_with fail
    refine (awake_any _).mono ?_
    rintro e y1 ⟨rfl, hb⟩
    replace HB := Lib.hid (HB.out.trans (hb.mono HB.out.size))
    clear hb
    go_wp2
    go_ret
    exact ⟨rfl, HB.out⟩
  have hn0 : n0 ≤ 1000 := by have := boxOk_len HO0.out; have := L0.out; omega
  have hn1 : n1 ≤ 1000 := by have := boxOk_len HO1.out; have := L1.out; omega
  have hn2 : n2 ≤ 1000 := by have := rowOk_len HO2.out; have := L2.out; omega
  obtain ⟨y0, hy0⟩ : ∃ x, typL R0 R2 = x := ⟨_, rfl⟩
  obtain ⟨y1, hy1⟩ : ∃ x, typL R1 R2 = x := ⟨_, rfl⟩
  have HY0 := Lib.hid hy0
  have HY1 := Lib.hid hy1
  have Y0 := Lib.hid (fun W (hW : Below w.heap.size w W) => typed_any t0 A0 n0 c0 R0 A2 n2 c2 R2 W (H0.out W hW) (H2.out W hW) hn0 (by omega))
  have Y1 := Lib.hid (fun W (hW : Below w.heap.size w W) => typed_any t1 A1 n1 c1 R1 A2 n2 c2 R2 W (H1.out W hW) (H2.out W hW) hn1 (by omega))
  simp only [hy0] at Y0
  simp only [hy1] at Y1
  clear hy0 hy1
  have c0_0 : x4.cell? ⟨w.heap.size, 0, none⟩ = some (.int .i64 t0) := K0.out.cell 0
  have c0_1 : x4.cell? ⟨w.heap.size, 1, none⟩ = some (.slice A0 n0 c0) := K0.out.cell 1
  have c1_0 : x4.cell? ⟨w.heap.size + 1, 0, none⟩ = some (.int .i64 t1) := K1.out.cell 0
  have c1_1 : x4.cell? ⟨w.heap.size + 1, 1, none⟩ = some (.slice A1 n1 c1) := K1.out.cell 1
  go_wp2_with fail
  clear c0_0 c0_1 c1_0 c1_1
  refine (Y0.out _ HB.out).mono ?_
  rintro e x5 ⟨rfl, hb⟩
  replace HB := Lib.hid (HB.out.trans (hb.mono HB.out.size))
  replace K0 := Lib.hid (K0.out.below hb)
  replace K1 := Lib.hid (K1.out.below hb)
  clear hb
  cases y0
  · go_wp2_with fail
    refine (awake_any _).mono ?_
    rintro e y1 ⟨rfl, hb⟩
    replace HB := Lib.hid (HB.out.trans (hb.mono HB.out.size))
    clear hb
    go_wp2
    go_ret
    exact ⟨rfl, HB.out⟩
  have c0_0 : x5.cell? ⟨w.heap.size, 0, none⟩ = some (.int .i64 t0) := K0.out.cell 0
  have c0_1 : x5.cell? ⟨w.heap.size, 1, none⟩ = some (.slice A0 n0 c0) := K0.out.cell 1
  have c1_0 : x5.cell? ⟨w.heap.size + 1, 0, none⟩ = some (.int .i64 t1) := K1.out.cell 0
  have c1_1 : x5.cell? ⟨w.heap.size + 1, 1, none⟩ = some (.slice A1 n1 c1) := K1.out.cell 1
  go_wp2_with fail
  clear c0_0 c0_1 c1_0 c1_1
  refine (Y1.out _ HB.out).mono ?_
  rintro e x6 ⟨rfl, hb⟩
  replace HB := Lib.hid (HB.out.trans (hb.mono HB.out.size))
  replace K0 := Lib.hid (K0.out.below hb)
  replace K1 := Lib.hid (K1.out.below hb)
  clear hb
  cases y1
  · go_wp2_with fail
    refine (awake_any _).mono ?_
    rintro e y1 ⟨rfl, hb⟩
    replace HB := Lib.hid (HB.out.trans (hb.mono HB.out.size))
    clear hb
    go_wp2
    go_ret
    exact ⟨rfl, HB.out⟩
  obtain ⟨b0, hb0⟩ : ∃ x, contB R0 R2 = x := ⟨_, rfl⟩
  obtain ⟨b1, hb1⟩ : ∃ x, contB R1 R2 = x := ⟨_, rfl⟩
  have HM := Lib.hid (fun W X x (hX : Sds W X n0 R0) (hY : Vls W A2 n2 R2) => Contains_any t0 X n0 x R0 A2 n2 c2 R2 W hX hY hn0 (by omega))
  have HM1 := Lib.hid (fun W X x (hX : Sds W X n1 R1) (hY : Vls W A2 n2 R2) => Contains_any t1 X n1 x R1 A2 n2 c2 R2 W hX hY hn1 (by omega))
  simp only [hb0] at HM
  simp only [hb1] at HM1
  have HC0 := Lib.hid hb0
  have HC1 := Lib.hid hb1
  clear hb0 hb1
  by_cases htt : t0 = t1
  · subst htt
    cases b0
    · have c0_0 : x6.cell? ⟨w.heap.size, 0, none⟩ = some (.int .i64 t0) := K0.out.cell 0
      have c0_1 : x6.cell? ⟨w.heap.size, 1, none⟩ = some (.slice A0 n0 c0) := K0.out.cell 1
      have c1_0 : x6.cell? ⟨w.heap.size + 1, 0, none⟩ = some (.int .i64 t0) := K1.out.cell 0
      have c1_1 : x6.cell? ⟨w.heap.size + 1, 1, none⟩ = some (.slice A1 n1 c1) := K1.out.cell 1
      go_wp2_with fail
      have hb : Below x6.heap.size x6 x6.drew := below_drew (Below.refl _ _)
      refine wp_region_mix 26 (fun w' => Below x6.heap.size x6 w') (by kernel_rfl) (by decide) ?_
      generalize x6.drew = y0 at hb ⊢
      refine wpM_take (i := 0) (oi := ⟨some 37, _, _, _, _, _⟩) (v := ?_) rfl (by decide +kernel) (by decide +kernel) (by decide +kernel) (fun _ _ _ h => h) (Or.inl ⟨by rfl, ?_⟩) hb ?_
      case refine_2 =>
        intro w' hSw
        have c0_0' := keepcell hSw c0_0
        have c0_1' := keepcell hSw c0_1
        have c1_0' := keepcell hSw c1_0
        have c1_1' := keepcell hSw c1_1
        go_simp
        try (with_reducible rfl)
      try simp only [Act.put, List.setIfInBounds_toArray, List.set_cons_zero, List.set_cons_succ]
      refine wpM_take (i := 1) (oi := ⟨some 38, _, _, _, _, _⟩) (v := ?_) rfl (by decide +kernel) (by decide +kernel) (by decide +kernel) (fun _ _ _ h => h) (Or.inl ⟨by rfl, ?_⟩) hb ?_
      case refine_2 =>
        intro w' hSw
        have c0_0' := keepcell hSw c0_0
        have c0_1' := keepcell hSw c0_1
        have c1_0' := keepcell hSw c1_0
        have c1_1' := keepcell hSw c1_1
        go_simp
        try (with_reducible rfl)
      try simp only [Act.put, List.setIfInBounds_toArray, List.set_cons_zero, List.set_cons_succ]
      refine wpM_take (i := 2) (oi := ⟨some 39, _, _, _, _, _⟩) (v := ?_) rfl (by decide +kernel) (by decide +kernel) (by decide +kernel) (fun _ _ _ h => h) (Or.inl ⟨by rfl, ?_⟩) hb ?_
      case refine_2 =>
        intro w' hSw
        have c0_0' := keepcell hSw c0_0
        have c0_1' := keepcell hSw c0_1
        have c1_0' := keepcell hSw c1_0
        have c1_1' := keepcell hSw c1_1
        go_simp
        try (with_reducible rfl)
      try simp only [Act.put, List.setIfInBounds_toArray, List.set_cons_zero, List.set_cons_succ]
      refine wpM_take (i := 3) (oi := ⟨some 40, _, _, _, _, _⟩) (v := ?_) rfl (by decide +kernel) (by decide +kernel) (by decide +kernel) (fun _ _ _ h => h) (Or.inl ⟨by rfl, ?_⟩) hb ?_
      case refine_2 =>
        intro w' hSw
        have c0_0' := keepcell hSw c0_0
        have c0_1' := keepcell hSw c0_1
        have c1_0' := keepcell hSw c1_0
        have c1_1' := keepcell hSw c1_1
        go_simp
        try (with_reducible rfl)
      try simp only [Act.put, List.setIfInBounds_toArray, List.set_cons_zero, List.set_cons_succ]
      refine wpM_take (i := 4) (oi := ⟨some 41, _, _, _, _, _⟩) (v := ?_) rfl (by decide +kernel) (by decide +kernel) (by decide +kernel) (fun _ _ _ h => h) (Or.inl ⟨by rfl, ?_⟩) hb ?_
      case refine_2 =>
        intro w' hSw
        have c0_0' := keepcell hSw c0_0
        have c0_1' := keepcell hSw c0_1
        have c1_0' := keepcell hSw c1_0
        have c1_1' := keepcell hSw c1_1
        go_simp
        try (with_reducible rfl)
      try simp only [Act.put, List.setIfInBounds_toArray, List.set_cons_zero, List.set_cons_succ]
      refine wpM_take (i := 5) (oi := ⟨some 42, _, _, _, _, _⟩) (v := ?_) rfl (by decide +kernel) (by decide +kernel) (by decide +kernel) (fun _ _ _ h => h) (Or.inl ⟨by rfl, ?_⟩) hb ?_
      case refine_2 =>
        intro w' hSw
        have c0_0' := keepcell hSw c0_0
        have c0_1' := keepcell hSw c0_1
        have c1_0' := keepcell hSw c1_0
        have c1_1' := keepcell hSw c1_1
        go_simp
        try (with_reducible rfl)
      try simp only [Act.put, List.setIfInBounds_toArray, List.set_cons_zero, List.set_cons_succ]
      refine wpM_take (i := 6) (oi := ⟨some 43, _, _, _, _, _⟩) (v := ?_) rfl (by decide +kernel) (by decide +kernel) (by decide +kernel) (fun _ _ _ h => h) (Or.inl ⟨by rfl, ?_⟩) hb ?_
      case refine_2 =>
        intro w' hSw
        have c0_0' := keepcell hSw c0_0
        have c0_1' := keepcell hSw c0_1
        have c1_0' := keepcell hSw c1_0
        have c1_1' := keepcell hSw c1_1
        go_simp
        try (with_reducible rfl)
      try simp only [Act.put, List.setIfInBounds_toArray, List.set_cons_zero, List.set_cons_succ]
      refine wpM_take (i := 8) (oi := ⟨some 45, _, _, _, _, _⟩) (v := ?_) rfl (by decide +kernel) (by decide +kernel) (by decide +kernel) (fun _ _ _ h => h) (Or.inl ⟨by rfl, ?_⟩) hb ?_
      case refine_2 =>
        intro w' hSw
        have c0_0' := keepcell hSw c0_0
        have c0_1' := keepcell hSw c0_1
        have c1_0' := keepcell hSw c1_0
        have c1_1' := keepcell hSw c1_1
        go_simp
        try (with_reducible rfl)
      try simp only [Act.put, List.setIfInBounds_toArray, List.set_cons_zero, List.set_cons_succ]
      refine wpM_step (i := 7) (o := ⟨some 44, _, _, _, _, _⟩) rfl (by decide +kernel) (by decide) (fun K hK => ?_)
      go_simp
      refine (own_any t0 A0 n0 c0 R0 y0 (H0.out _ (HB.out.trans (hb.mono HB.out.size))) hn0).mono ?_
      rintro e y1 ⟨D1, d1, rfl, S1, h1y⟩
      have b1y : Below x6.heap.size x6 y1 := hb.trans (h1y.mono hb.size)
      clear h1y
      refine hK.out _ _ b1y ?_
      clear hK K
      try simp only [Act.put, List.setIfInBounds_toArray, List.set_cons_zero, List.set_cons_succ]
      refine wpM_step (i := 9) (o := ⟨some 46, _, _, _, _, _⟩) rfl (by decide +kernel) (by decide) (fun K hK => ?_)
      go_simp
      refine (HM.out y1 _ _ S1 (H2.out _ (HB.out.trans (b1y.mono HB.out.size)))).mono ?_
      rintro e y2 ⟨rfl, h2y⟩
      have b2y : Below x6.heap.size x6 y2 := b1y.trans (h2y.mono b1y.size)
      clear h2y
      refine hK.out _ _ b2y ?_
      clear hK K
      try simp only [Act.put, List.setIfInBounds_toArray, List.set_cons_zero, List.set_cons_succ]
      refine wpM_take (i := 10) (oi := ⟨some 47, _, _, _, _, _⟩) (v := ?_) rfl (by decide +kernel) (by decide +kernel) (by decide +kernel) (fun _ _ _ h => h) (Or.inl ⟨by rfl, ?_⟩) b2y ?_
      case refine_2 =>
        intro w' hSw
        have c0_0' := keepcell hSw c0_0
        have c0_1' := keepcell hSw c0_1
        have c1_0' := keepcell hSw c1_0
        have c1_1' := keepcell hSw c1_1
        go_simp
        try (with_reducible rfl)
      try simp only [Act.put, List.setIfInBounds_toArray, List.set_cons_zero, List.set_cons_succ]
      refine wpM_take (i := 11) (oi := ⟨some 48, _, _, _, _, _⟩) (v := ?_) rfl (by decide +kernel) (by decide +kernel) (by decide +kernel) (fun _ _ _ h => h) (Or.inl ⟨by rfl, ?_⟩) b2y ?_
      case refine_2 =>
        intro w' hSw
        have c0_0' := keepcell hSw c0_0
        have c0_1' := keepcell hSw c0_1
        have c1_0' := keepcell hSw c1_0
        have c1_1' := keepcell hSw c1_1
        go_simp
        try (with_reducible rfl)
      try simp only [Act.put, List.setIfInBounds_toArray, List.set_cons_zero, List.set_cons_succ]
      refine wpM_take (i := 12) (oi := ⟨some 49, _, _, _, _, _⟩) (v := ?_) rfl (by decide +kernel) (by decide +kernel) (by decide +kernel) (fun _ _ _ h => h) (Or.inl ⟨by rfl, ?_⟩) b2y ?_
      case refine_2 =>
        intro w' hSw
        have c0_0' := keepcell hSw c0_0
        have c0_1' := keepcell hSw c0_1
        have c1_0' := keepcell hSw c1_0
        have c1_1' := keepcell hSw c1_1
        go_simp
        try (with_reducible rfl)
      try simp only [Act.put, List.setIfInBounds_toArray, List.set_cons_zero, List.set_cons_succ]
      refine wpM_take (i := 13) (oi := ⟨some 50, _, _, _, _, _⟩) (v := undef) rfl (by decide +kernel) (by decide +kernel) (by decide +kernel) (fun _ _ _ h => h) (Or.inr ⟨by rfl, rfl⟩) b2y ?_
      try simp only [Act.put, List.setIfInBounds_toArray, List.set_cons_zero, List.set_cons_succ]
      refine wpM_take (i := 14) (oi := ⟨some 51, _, _, _, _, _⟩) (v := undef) rfl (by decide +kernel) (by decide +kernel) (by decide +kernel) (fun _ _ _ h => h) (Or.inr ⟨by rfl, rfl⟩) b2y ?_
      try simp only [Act.put, List.setIfInBounds_toArray, List.set_cons_zero, List.set_cons_succ]
      refine wpM_take (i := 15) (oi := ⟨some 52, _, _, _, _, _⟩) (v := undef) rfl (by decide +kernel) (by decide +kernel) (by decide +kernel) (fun _ _ _ h => h) (Or.inr ⟨by rfl, rfl⟩) b2y ?_
      try simp only [Act.put, List.setIfInBounds_toArray, List.set_cons_zero, List.set_cons_succ]
      refine wpM_take (i := 16) (oi := ⟨some 53, _, _, _, _, _⟩) (v := undef) rfl (by decide +kernel) (by decide +kernel) (by decide +kernel) (fun _ _ _ h => h) (Or.inr ⟨by rfl, rfl⟩) b2y ?_
      try simp only [Act.put, List.setIfInBounds_toArray, List.set_cons_zero, List.set_cons_succ]
      refine wpM_take (i := 17) (oi := ⟨some 54, _, _, _, _, _⟩) (v := undef) rfl (by decide +kernel) (by decide +kernel) (by decide +kernel) (fun _ _ _ h => h) (Or.inr ⟨by rfl, rfl⟩) b2y ?_
      try simp only [Act.put, List.setIfInBounds_toArray, List.set_cons_zero, List.set_cons_succ]
      refine wpM_take (i := 18) (oi := ⟨some 55, _, _, _, _, _⟩) (v := ?_) rfl (by decide +kernel) (by decide +kernel) (by decide +kernel) (fun _ _ _ h => h) (Or.inl ⟨by rfl, ?_⟩) b2y ?_
      case refine_2 =>
        intro w' hSw
        have c0_0' := keepcell hSw c0_0
        have c0_1' := keepcell hSw c0_1
        have c1_0' := keepcell hSw c1_0
        have c1_1' := keepcell hSw c1_1
        go_simp
        try (with_reducible rfl)
      try simp only [Act.put, List.setIfInBounds_toArray, List.set_cons_zero, List.set_cons_succ]
      refine wpM_take (i := 19) (oi := ⟨some 56, _, _, _, _, _⟩) (v := ?_) rfl (by decide +kernel) (by decide +kernel) (by decide +kernel) (fun _ _ _ h => h) (Or.inl ⟨by rfl, ?_⟩) b2y ?_
      case refine_2 =>
        intro w' hSw
        have c0_0' := keepcell hSw c0_0
        have c0_1' := keepcell hSw c0_1
        have c1_0' := keepcell hSw c1_0
        have c1_1' := keepcell hSw c1_1
        go_simp
        try (with_reducible rfl)
      try simp only [Act.put, List.setIfInBounds_toArray, List.set_cons_zero, List.set_cons_succ]
      refine wpM_take (i := 20) (oi := ⟨some 57, _, _, _, _, _⟩) (v := undef) rfl (by decide +kernel) (by decide +kernel) (by decide +kernel) (fun _ _ _ h => h) (Or.inr ⟨by rfl, rfl⟩) b2y ?_
      try simp only [Act.put, List.setIfInBounds_toArray, List.set_cons_zero, List.set_cons_succ]
      refine wpM_take (i := 21) (oi := ⟨some 58, _, _, _, _, _⟩) (v := undef) rfl (by decide +kernel) (by decide +kernel) (by decide +kernel) (fun _ _ _ h => h) (Or.inr ⟨by rfl, rfl⟩) b2y ?_
      try simp only [Act.put, List.setIfInBounds_toArray, List.set_cons_zero, List.set_cons_succ]
      refine wpM_take (i := 22) (oi := ⟨some 59, _, _, _, _, _⟩) (v := undef) rfl (by decide +kernel) (by decide +kernel) (by decide +kernel) (fun _ _ _ h => h) (Or.inr ⟨by rfl, rfl⟩) b2y ?_
      try simp only [Act.put, List.setIfInBounds_toArray, List.set_cons_zero, List.set_cons_succ]
      refine wpM_take (i := 23) (oi := ⟨some 60, _, _, _, _, _⟩) (v := undef) rfl (by decide +kernel) (by decide +kernel) (by decide +kernel) (fun _ _ _ h => h) (Or.inr ⟨by rfl, rfl⟩) b2y ?_
      try simp only [Act.put, List.setIfInBounds_toArray, List.set_cons_zero, List.set_cons_succ]
      refine wpM_take (i := 24) (oi := ⟨some 61, _, _, _, _, _⟩) (v := undef) rfl (by decide +kernel) (by decide +kernel) (by decide +kernel) (fun _ _ _ h => h) (Or.inr ⟨by rfl, rfl⟩) b2y ?_
      try simp only [Act.put, List.setIfInBounds_toArray, List.set_cons_zero, List.set_cons_succ]
      refine wpM_take (i := 25) (oi := ⟨some 62, _, _, _, _, _⟩) (v := ?_) rfl (by decide +kernel) (by decide +kernel) (by decide +kernel) (fun _ _ _ h => h) (Or.inl ⟨by rfl, ?_⟩) b2y ?_
      case refine_2 =>
        intro w' hSw
        have c0_0' := keepcell hSw c0_0
        have c0_1' := keepcell hSw c0_1
        have c1_0' := keepcell hSw c1_0
        have c1_1' := keepcell hSw c1_1
        go_simp
        try (with_reducible rfl)
      try simp only [Act.put, List.setIfInBounds_toArray, List.set_cons_zero, List.set_cons_succ]
      refine wpM_done (by decide +kernel) ?_
      simp only [List.drop_succ_cons, List.drop_zero]
      go_wp2
      go_ret
      exact ⟨rfl, HB.out.trans (b2y.mono HB.out.size)⟩
    · cases b1
      · have c0_0 : x6.cell? ⟨w.heap.size, 0, none⟩ = some (.int .i64 t0) := K0.out.cell 0
        have c0_1 : x6.cell? ⟨w.heap.size, 1, none⟩ = some (.slice A0 n0 c0) := K0.out.cell 1
        have c1_0 : x6.cell? ⟨w.heap.size + 1, 0, none⟩ = some (.int .i64 t0) := K1.out.cell 0
        have c1_1 : x6.cell? ⟨w.heap.size + 1, 1, none⟩ = some (.slice A1 n1 c1) := K1.out.cell 1
        go_wp2_with fail
        have hb : Below x6.heap.size x6 x6.drew := below_drew (Below.refl _ _)
        refine wp_region_mix 26 (fun w' => Below x6.heap.size x6 w') (by kernel_rfl) (by decide) ?_
        generalize x6.drew = y0 at hb ⊢
        refine wpM_take (i := 0) (oi := ⟨some 37, _, _, _, _, _⟩) (v := ?_) rfl (by decide +kernel) (by decide +kernel) (by decide +kernel) (fun _ _ _ h => h) (Or.inl ⟨by rfl, ?_⟩) hb ?_
        case refine_2 =>
          intro w' hSw
          have c0_0' := keepcell hSw c0_0
          have c0_1' := keepcell hSw c0_1
          have c1_0' := keepcell hSw c1_0
          have c1_1' := keepcell hSw c1_1
          go_simp
          try (with_reducible rfl)
        try simp only [Act.put, List.setIfInBounds_toArray, List.set_cons_zero, List.set_cons_succ]
        refine wpM_take (i := 1) (oi := ⟨some 38, _, _, _, _, _⟩) (v := ?_) rfl (by decide +kernel) (by decide +kernel) (by decide +kernel) (fun _ _ _ h => h) (Or.inl ⟨by rfl, ?_⟩) hb ?_
        case refine_2 =>
          intro w' hSw
          have c0_0' := keepcell hSw c0_0
          have c0_1' := keepcell hSw c0_1
          have c1_0' := keepcell hSw c1_0
          have c1_1' := keepcell hSw c1_1
          go_simp
          try (with_reducible rfl)
        try simp only [Act.put, List.setIfInBounds_toArray, List.set_cons_zero, List.set_cons_succ]
        refine wpM_take (i := 2) (oi := ⟨some 39, _, _, _, _, _⟩) (v := ?_) rfl (by decide +kernel) (by decide +kernel) (by decide +kernel) (fun _ _ _ h => h) (Or.inl ⟨by rfl, ?_⟩) hb ?_
        case refine_2 =>
          intro w' hSw
          have c0_0' := keepcell hSw c0_0
          have c0_1' := keepcell hSw c0_1
          have c1_0' := keepcell hSw c1_0
          have c1_1' := keepcell hSw c1_1
          go_simp
          try (with_reducible rfl)
        try simp only [Act.put, List.setIfInBounds_toArray, List.set_cons_zero, List.set_cons_succ]
        refine wpM_take (i := 3) (oi := ⟨some 40, _, _, _, _, _⟩) (v := ?_) rfl (by decide +kernel) (by decide +kernel) (by decide +kernel) (fun _ _ _ h => h) (Or.inl ⟨by rfl, ?_⟩) hb ?_
        case refine_2 =>
          intro w' hSw
          have c0_0' := keepcell hSw c0_0
          have c0_1' := keepcell hSw c0_1
          have c1_0' := keepcell hSw c1_0
          have c1_1' := keepcell hSw c1_1
          go_simp
          try (with_reducible rfl)
        try simp only [Act.put, List.setIfInBounds_toArray, List.set_cons_zero, List.set_cons_succ]
        refine wpM_take (i := 4) (oi := ⟨some 41, _, _, _, _, _⟩) (v := ?_) rfl (by decide +kernel) (by decide +kernel) (by decide +kernel) (fun _ _ _ h => h) (Or.inl ⟨by rfl, ?_⟩) hb ?_
        case refine_2 =>
          intro w' hSw
          have c0_0' := keepcell hSw c0_0
          have c0_1' := keepcell hSw c0_1
          have c1_0' := keepcell hSw c1_0
          have c1_1' := keepcell hSw c1_1
          go_simp
          try (with_reducible rfl)
        try simp only [Act.put, List.setIfInBounds_toArray, List.set_cons_zero, List.set_cons_succ]
        refine wpM_take (i := 5) (oi := ⟨some 42, _, _, _, _, _⟩) (v := ?_) rfl (by decide +kernel) (by decide +kernel) (by decide +kernel) (fun _ _ _ h => h) (Or.inl ⟨by rfl, ?_⟩) hb ?_
        case refine_2 =>
          intro w' hSw
          have c0_0' := keepcell hSw c0_0
          have c0_1' := keepcell hSw c0_1
          have c1_0' := keepcell hSw c1_0
          have c1_1' := keepcell hSw c1_1
          go_simp
          try (with_reducible rfl)
        try simp only [Act.put, List.setIfInBounds_toArray, List.set_cons_zero, List.set_cons_succ]
        refine wpM_take (i := 6) (oi := ⟨some 43, _, _, _, _, _⟩) (v := ?_) rfl (by decide +kernel) (by decide +kernel) (by decide +kernel) (fun _ _ _ h => h) (Or.inl ⟨by rfl, ?_⟩) hb ?_
        case refine_2 =>
          intro w' hSw
          have c0_0' := keepcell hSw c0_0
          have c0_1' := keepcell hSw c0_1
          have c1_0' := keepcell hSw c1_0
          have c1_1' := keepcell hSw c1_1
          go_simp
          try (with_reducible rfl)
        try simp only [Act.put, List.setIfInBounds_toArray, List.set_cons_zero, List.set_cons_succ]
        refine wpM_take (i := 8) (oi := ⟨some 45, _, _, _, _, _⟩) (v := ?_) rfl (by decide +kernel) (by decide +kernel) (by decide +kernel) (fun _ _ _ h => h) (Or.inl ⟨by rfl, ?_⟩) hb ?_
        case refine_2 =>
          intro w' hSw
          have c0_0' := keepcell hSw c0_0
          have c0_1' := keepcell hSw c0_1
          have c1_0' := keepcell hSw c1_0
          have c1_1' := keepcell hSw c1_1
          go_simp
          try (with_reducible rfl)
        try simp only [Act.put, List.setIfInBounds_toArray, List.set_cons_zero, List.set_cons_succ]
        refine wpM_step (i := 7) (o := ⟨some 44, _, _, _, _, _⟩) rfl (by decide +kernel) (by decide) (fun K hK => ?_)
        go_simp
        refine (own_any t0 A0 n0 c0 R0 y0 (H0.out _ (HB.out.trans (hb.mono HB.out.size))) hn0).mono ?_
        rintro e y1 ⟨D1, d1, rfl, S1, h1y⟩
        have b1y : Below x6.heap.size x6 y1 := hb.trans (h1y.mono hb.size)
        clear h1y
        refine hK.out _ _ b1y ?_
        clear hK K
        try simp only [Act.put, List.setIfInBounds_toArray, List.set_cons_zero, List.set_cons_succ]
        refine wpM_step (i := 9) (o := ⟨some 46, _, _, _, _, _⟩) rfl (by decide +kernel) (by decide) (fun K hK => ?_)
        go_simp
        refine (HM.out y1 _ _ S1 (H2.out _ (HB.out.trans (b1y.mono HB.out.size)))).mono ?_
        rintro e y2 ⟨rfl, h2y⟩
        have b2y : Below x6.heap.size x6 y2 := b1y.trans (h2y.mono b1y.size)
        clear h2y
        refine hK.out _ _ b2y ?_
        clear hK K
        try simp only [Act.put, List.setIfInBounds_toArray, List.set_cons_zero, List.set_cons_succ]
        refine wpM_take (i := 10) (oi := ⟨some 47, _, _, _, _, _⟩) (v := ?_) rfl (by decide +kernel) (by decide +kernel) (by decide +kernel) (fun _ _ _ h => h) (Or.inl ⟨by rfl, ?_⟩) b2y ?_
        case refine_2 =>
          intro w' hSw
          have c0_0' := keepcell hSw c0_0
          have c0_1' := keepcell hSw c0_1
          have c1_0' := keepcell hSw c1_0
          have c1_1' := keepcell hSw c1_1
          go_simp
          try (with_reducible rfl)
        try simp only [Act.put, List.setIfInBounds_toArray, List.set_cons_zero, List.set_cons_succ]
        refine wpM_take (i := 11) (oi := ⟨some 48, _, _, _, _, _⟩) (v := ?_) rfl (by decide +kernel) (by decide +kernel) (by decide +kernel) (fun _ _ _ h => h) (Or.inl ⟨by rfl, ?_⟩) b2y ?_
        case refine_2 =>
          intro w' hSw
          have c0_0' := keepcell hSw c0_0
          have c0_1' := keepcell hSw c0_1
          have c1_0' := keepcell hSw c1_0
          have c1_1' := keepcell hSw c1_1
          go_simp
          try (with_reducible rfl)
        try simp only [Act.put, List.setIfInBounds_toArray, List.set_cons_zero, List.set_cons_succ]
        refine wpM_take (i := 12) (oi := ⟨some 49, _, _, _, _, _⟩) (v := ?_) rfl (by decide +kernel) (by decide +kernel) (by decide +kernel) (fun _ _ _ h => h) (Or.inl ⟨by rfl, ?_⟩) b2y ?_
        case refine_2 =>
          intro w' hSw
          have c0_0' := keepcell hSw c0_0
          have c0_1' := keepcell hSw c0_1
          have c1_0' := keepcell hSw c1_0
          have c1_1' := keepcell hSw c1_1
          go_simp
          try (with_reducible rfl)
        try simp only [Act.put, List.setIfInBounds_toArray, List.set_cons_zero, List.set_cons_succ]
        refine wpM_take (i := 13) (oi := ⟨some 50, _, _, _, _, _⟩) (v := ?_) rfl (by decide +kernel) (by decide +kernel) (by decide +kernel) (fun _ _ _ h => h) (Or.inl ⟨by rfl, ?_⟩) b2y ?_
        case refine_2 =>
          intro w' hSw
          have c0_0' := keepcell hSw c0_0
          have c0_1' := keepcell hSw c0_1
          have c1_0' := keepcell hSw c1_0
          have c1_1' := keepcell hSw c1_1
          go_simp
          try (with_reducible rfl)
        try simp only [Act.put, List.setIfInBounds_toArray, List.set_cons_zero, List.set_cons_succ]
        refine wpM_take (i := 15) (oi := ⟨some 52, _, _, _, _, _⟩) (v := ?_) rfl (by decide +kernel) (by decide +kernel) (by decide +kernel) (fun _ _ _ h => h) (Or.inl ⟨by rfl, ?_⟩) b2y ?_
        case refine_2 =>
          intro w' hSw
          have c0_0' := keepcell hSw c0_0
          have c0_1' := keepcell hSw c0_1
          have c1_0' := keepcell hSw c1_0
          have c1_1' := keepcell hSw c1_1
          go_simp
          try (with_reducible rfl)
        try simp only [Act.put, List.setIfInBounds_toArray, List.set_cons_zero, List.set_cons_succ]
        refine wpM_step (i := 14) (o := ⟨some 51, _, _, _, _, _⟩) rfl (by decide +kernel) (by decide) (fun K hK => ?_)
        go_simp
        refine (own_any t0 A1 n1 c1 R1 y2 (H1.out _ (HB.out.trans (b2y.mono HB.out.size))) hn1).mono ?_
        rintro e y3 ⟨D2, d2, rfl, S2, h3y⟩
        have b3y : Below x6.heap.size x6 y3 := b2y.trans (h3y.mono b2y.size)
        clear h3y
        refine hK.out _ _ b3y ?_
        clear hK K
        try simp only [Act.put, List.setIfInBounds_toArray, List.set_cons_zero, List.set_cons_succ]
        refine wpM_step (i := 16) (o := ⟨some 53, _, _, _, _, _⟩) rfl (by decide +kernel) (by decide) (fun K hK => ?_)
        go_simp
        refine (HM1.out y3 _ _ S2 (H2.out _ (HB.out.trans (b3y.mono HB.out.size)))).mono ?_
        rintro e y4 ⟨rfl, h4y⟩
        have b4y : Below x6.heap.size x6 y4 := b3y.trans (h4y.mono b3y.size)
        clear h4y
        refine hK.out _ _ b4y ?_
        clear hK K
        try simp only [Act.put, List.setIfInBounds_toArray, List.set_cons_zero, List.set_cons_succ]
        refine wpM_take (i := 17) (oi := ⟨some 54, _, _, _, _, _⟩) (v := ?_) rfl (by decide +kernel) (by decide +kernel) (by decide +kernel) (fun _ _ _ h => h) (Or.inl ⟨by rfl, ?_⟩) b4y ?_
        case refine_2 =>
          intro w' hSw
          have c0_0' := keepcell hSw c0_0
          have c0_1' := keepcell hSw c0_1
          have c1_0' := keepcell hSw c1_0
          have c1_1' := keepcell hSw c1_1
          go_simp
          try (with_reducible rfl)
        try simp only [Act.put, List.setIfInBounds_toArray, List.set_cons_zero, List.set_cons_succ]
        refine wpM_take (i := 18) (oi := ⟨some 55, _, _, _, _, _⟩) (v := ?_) rfl (by decide +kernel) (by decide +kernel) (by decide +kernel) (fun _ _ _ h => h) (Or.inl ⟨by rfl, ?_⟩) b4y ?_
        case refine_2 =>
          intro w' hSw
          have c0_0' := keepcell hSw c0_0
          have c0_1' := keepcell hSw c0_1
          have c1_0' := keepcell hSw c1_0
          have c1_1' := keepcell hSw c1_1
          go_simp
          try (with_reducible rfl)
        try simp only [Act.put, List.setIfInBounds_toArray, List.set_cons_zero, List.set_cons_succ]
        refine wpM_take (i := 19) (oi := ⟨some 56, _, _, _, _, _⟩) (v := ?_) rfl (by decide +kernel) (by decide +kernel) (by decide +kernel) (fun _ _ _ h => h) (Or.inl ⟨by rfl, ?_⟩) b4y ?_
        case refine_2 =>
          intro w' hSw
          have c0_0' := keepcell hSw c0_0
          have c0_1' := keepcell hSw c0_1
          have c1_0' := keepcell hSw c1_0
          have c1_1' := keepcell hSw c1_1
          go_simp
          try (with_reducible rfl)
        try simp only [Act.put, List.setIfInBounds_toArray, List.set_cons_zero, List.set_cons_succ]
        refine wpM_take (i := 20) (oi := ⟨some 57, _, _, _, _, _⟩) (v := undef) rfl (by decide +kernel) (by decide +kernel) (by decide +kernel) (fun _ _ _ h => h) (Or.inr ⟨by rfl, rfl⟩) b4y ?_
        try simp only [Act.put, List.setIfInBounds_toArray, List.set_cons_zero, List.set_cons_succ]
        refine wpM_take (i := 21) (oi := ⟨some 58, _, _, _, _, _⟩) (v := undef) rfl (by decide +kernel) (by decide +kernel) (by decide +kernel) (fun _ _ _ h => h) (Or.inr ⟨by rfl, rfl⟩) b4y ?_
        try simp only [Act.put, List.setIfInBounds_toArray, List.set_cons_zero, List.set_cons_succ]
        refine wpM_take (i := 22) (oi := ⟨some 59, _, _, _, _, _⟩) (v := undef) rfl (by decide +kernel) (by decide +kernel) (by decide +kernel) (fun _ _ _ h => h) (Or.inr ⟨by rfl, rfl⟩) b4y ?_
        try simp only [Act.put, List.setIfInBounds_toArray, List.set_cons_zero, List.set_cons_succ]
        refine wpM_take (i := 23) (oi := ⟨some 60, _, _, _, _, _⟩) (v := undef) rfl (by decide +kernel) (by decide +kernel) (by decide +kernel) (fun _ _ _ h => h) (Or.inr ⟨by rfl, rfl⟩) b4y ?_
        try simp only [Act.put, List.setIfInBounds_toArray, List.set_cons_zero, List.set_cons_succ]
        refine wpM_take (i := 24) (oi := ⟨some 61, _, _, _, _, _⟩) (v := undef) rfl (by decide +kernel) (by decide +kernel) (by decide +kernel) (fun _ _ _ h => h) (Or.inr ⟨by rfl, rfl⟩) b4y ?_
        try simp only [Act.put, List.setIfInBounds_toArray, List.set_cons_zero, List.set_cons_succ]
        refine wpM_take (i := 25) (oi := ⟨some 62, _, _, _, _, _⟩) (v := ?_) rfl (by decide +kernel) (by decide +kernel) (by decide +kernel) (fun _ _ _ h => h) (Or.inl ⟨by rfl, ?_⟩) b4y ?_
        case refine_2 =>
          intro w' hSw
          have c0_0' := keepcell hSw c0_0
          have c0_1' := keepcell hSw c0_1
          have c1_0' := keepcell hSw c1_0
          have c1_1' := keepcell hSw c1_1
          go_simp
          try (with_reducible rfl)
        try simp only [Act.put, List.setIfInBounds_toArray, List.set_cons_zero, List.set_cons_succ]
        refine wpM_done (by decide +kernel) ?_
        simp only [List.drop_succ_cons, List.drop_zero]
        go_wp2
        go_ret
        exact ⟨rfl, HB.out.trans (b4y.mono HB.out.size)⟩
      · have HMT := Lib.hid (common_all t0 HO2.out HC0.out HC1.out HY0.out HY1.out)
        have c0_0 : x6.cell? ⟨w.heap.size, 0, none⟩ = some (.int .i64 t0) := K0.out.cell 0
        have c0_1 : x6.cell? ⟨w.heap.size, 1, none⟩ = some (.slice A0 n0 c0) := K0.out.cell 1
        have c1_0 : x6.cell? ⟨w.heap.size + 1, 0, none⟩ = some (.int .i64 t0) := K1.out.cell 0
        have c1_1 : x6.cell? ⟨w.heap.size + 1, 1, none⟩ = some (.slice A1 n1 c1) := K1.out.cell 1
        go_wp2_with fail
        have hb : Below x6.heap.size x6 x6.drew := below_drew (Below.refl _ _)
        refine wp_region_mix 26 (fun w' => Below x6.heap.size x6 w') (by kernel_rfl) (by decide) ?_
        generalize x6.drew = y0 at hb ⊢
        refine wpM_take (i := 0) (oi := ⟨some 37, _, _, _, _, _⟩) (v := ?_) rfl (by decide +kernel) (by decide +kernel) (by decide +kernel) (fun _ _ _ h => h) (Or.inl ⟨by rfl, ?_⟩) hb ?_
        case refine_2 =>
          intro w' hSw
          have c0_0' := keepcell hSw c0_0
          have c0_1' := keepcell hSw c0_1
          have c1_0' := keepcell hSw c1_0
          have c1_1' := keepcell hSw c1_1
          go_simp
          try (with_reducible rfl)
        try simp only [Act.put, List.setIfInBounds_toArray, List.set_cons_zero, List.set_cons_succ]
        refine wpM_take (i := 1) (oi := ⟨some 38, _, _, _, _, _⟩) (v := ?_) rfl (by decide +kernel) (by decide +kernel) (by decide +kernel) (fun _ _ _ h => h) (Or.inl ⟨by rfl, ?_⟩) hb ?_
        case refine_2 =>
          intro w' hSw
          have c0_0' := keepcell hSw c0_0
          have c0_1' := keepcell hSw c0_1
          have c1_0' := keepcell hSw c1_0
          have c1_1' := keepcell hSw c1_1
          go_simp
          try (with_reducible rfl)
        try simp only [Act.put, List.setIfInBounds_toArray, List.set_cons_zero, List.set_cons_succ]
        refine wpM_take (i := 2) (oi := ⟨some 39, _, _, _, _, _⟩) (v := ?_) rfl (by decide +kernel) (by decide +kernel) (by decide +kernel) (fun _ _ _ h => h) (Or.inl ⟨by rfl, ?_⟩) hb ?_
        case refine_2 =>
          intro w' hSw
          have c0_0' := keepcell hSw c0_0
          have c0_1' := keepcell hSw c0_1
          have c1_0' := keepcell hSw c1_0
          have c1_1' := keepcell hSw c1_1
          go_simp
          try (with_reducible rfl)
        try simp only [Act.put, List.setIfInBounds_toArray, List.set_cons_zero, List.set_cons_succ]
        refine wpM_take (i := 3) (oi := ⟨some 40, _, _, _, _, _⟩) (v := ?_) rfl (by decide +kernel) (by decide +kernel) (by decide +kernel) (fun _ _ _ h => h) (Or.inl ⟨by rfl, ?_⟩) hb ?_
        case refine_2 =>
          intro w' hSw
          have c0_0' := keepcell hSw c0_0
          have c0_1' := keepcell hSw c0_1
          have c1_0' := keepcell hSw c1_0
          have c1_1' := keepcell hSw c1_1
          go_simp
          try (with_reducible rfl)
        try simp only [Act.put, List.setIfInBounds_toArray, List.set_cons_zero, List.set_cons_succ]
        refine wpM_take (i := 4) (oi := ⟨some 41, _, _, _, _, _⟩) (v := ?_) rfl (by decide +kernel) (by decide +kernel) (by decide +kernel) (fun _ _ _ h => h) (Or.inl ⟨by rfl, ?_⟩) hb ?_
        case refine_2 =>
          intro w' hSw
          have c0_0' := keepcell hSw c0_0
          have c0_1' := keepcell hSw c0_1
          have c1_0' := keepcell hSw c1_0
          have c1_1' := keepcell hSw c1_1
          go_simp
          try (with_reducible rfl)
        try simp only [Act.put, List.setIfInBounds_toArray, List.set_cons_zero, List.set_cons_succ]
        refine wpM_take (i := 5) (oi := ⟨some 42, _, _, _, _, _⟩) (v := ?_) rfl (by decide +kernel) (by decide +kernel) (by decide +kernel) (fun _ _ _ h => h) (Or.inl ⟨by rfl, ?_⟩) hb ?_
        case refine_2 =>
          intro w' hSw
          have c0_0' := keepcell hSw c0_0
          have c0_1' := keepcell hSw c0_1
          have c1_0' := keepcell hSw c1_0
          have c1_1' := keepcell hSw c1_1
          go_simp
          try (with_reducible rfl)
        try simp only [Act.put, List.setIfInBounds_toArray, List.set_cons_zero, List.set_cons_succ]
        refine wpM_take (i := 6) (oi := ⟨some 43, _, _, _, _, _⟩) (v := ?_) rfl (by decide +kernel) (by decide +kernel) (by decide +kernel) (fun _ _ _ h => h) (Or.inl ⟨by rfl, ?_⟩) hb ?_
        case refine_2 =>
          intro w' hSw
          have c0_0' := keepcell hSw c0_0
          have c0_1' := keepcell hSw c0_1
          have c1_0' := keepcell hSw c1_0
          have c1_1' := keepcell hSw c1_1
          go_simp
          try (with_reducible rfl)
        try simp only [Act.put, List.setIfInBounds_toArray, List.set_cons_zero, List.set_cons_succ]
        refine wpM_take (i := 8) (oi := ⟨some 45, _, _, _, _, _⟩) (v := ?_) rfl (by decide +kernel) (by decide +kernel) (by decide +kernel) (fun _ _ _ h => h) (Or.inl ⟨by rfl, ?_⟩) hb ?_
        case refine_2 =>
          intro w' hSw
          have c0_0' := keepcell hSw c0_0
          have c0_1' := keepcell hSw c0_1
          have c1_0' := keepcell hSw c1_0
          have c1_1' := keepcell hSw c1_1
          go_simp
          try (with_reducible rfl)
        try simp only [Act.put, List.setIfInBounds_toArray, List.set_cons_zero, List.set_cons_succ]
        refine wpM_step (i := 7) (o := ⟨some 44, _, _, _, _, _⟩) rfl (by decide +kernel) (by decide) (fun K hK => ?_)
        go_simp
        refine (own_any t0 A0 n0 c0 R0 y0 (H0.out _ (HB.out.trans (hb.mono HB.out.size))) hn0).mono ?_
        rintro e y1 ⟨D1, d1, rfl, S1, h1y⟩
        have b1y : Below x6.heap.size x6 y1 := hb.trans (h1y.mono hb.size)
        clear h1y
        refine hK.out _ _ b1y ?_
        clear hK K
        try simp only [Act.put, List.setIfInBounds_toArray, List.set_cons_zero, List.set_cons_succ]
        refine wpM_step (i := 9) (o := ⟨some 46, _, _, _, _, _⟩) rfl (by decide +kernel) (by decide) (fun K hK => ?_)
        go_simp
        refine (HM.out y1 _ _ S1 (H2.out _ (HB.out.trans (b1y.mono HB.out.size)))).mono ?_
        rintro e y2 ⟨rfl, h2y⟩
        have b2y : Below x6.heap.size x6 y2 := b1y.trans (h2y.mono b1y.size)
        clear h2y
        refine hK.out _ _ b2y ?_
        clear hK K
        try simp only [Act.put, List.setIfInBounds_toArray, List.set_cons_zero, List.set_cons_succ]
        refine wpM_take (i := 10) (oi := ⟨some 47, _, _, _, _, _⟩) (v := ?_) rfl (by decide +kernel) (by decide +kernel) (by decide +kernel) (fun _ _ _ h => h) (Or.inl ⟨by rfl, ?_⟩) b2y ?_
        case refine_2 =>
          intro w' hSw
          have c0_0' := keepcell hSw c0_0
          have c0_1' := keepcell hSw c0_1
          have c1_0' := keepcell hSw c1_0
          have c1_1' := keepcell hSw c1_1
          go_simp
          try (with_reducible rfl)
        try simp only [Act.put, List.setIfInBounds_toArray, List.set_cons_zero, List.set_cons_succ]
        refine wpM_take (i := 11) (oi := ⟨some 48, _, _, _, _, _⟩) (v := ?_) rfl (by decide +kernel) (by decide +kernel) (by decide +kernel) (fun _ _ _ h => h) (Or.inl ⟨by rfl, ?_⟩) b2y ?_
        case refine_2 =>
          intro w' hSw
          have c0_0' := keepcell hSw c0_0
          have c0_1' := keepcell hSw c0_1
          have c1_0' := keepcell hSw c1_0
          have c1_1' := keepcell hSw c1_1
          go_simp
          try (with_reducible rfl)
        try simp only [Act.put, List.setIfInBounds_toArray, List.set_cons_zero, List.set_cons_succ]
        refine wpM_take (i := 12) (oi := ⟨some 49, _, _, _, _, _⟩) (v := ?_) rfl (by decide +kernel) (by decide +kernel) (by decide +kernel) (fun _ _ _ h => h) (Or.inl ⟨by rfl, ?_⟩) b2y ?_
        case refine_2 =>
          intro w' hSw
          have c0_0' := keepcell hSw c0_0
          have c0_1' := keepcell hSw c0_1
          have c1_0' := keepcell hSw c1_0
          have c1_1' := keepcell hSw c1_1
          go_simp
          try (with_reducible rfl)
        try simp only [Act.put, List.setIfInBounds_toArray, List.set_cons_zero, List.set_cons_succ]
        refine wpM_take (i := 13) (oi := ⟨some 50, _, _, _, _, _⟩) (v := ?_) rfl (by decide +kernel) (by decide +kernel) (by decide +kernel) (fun _ _ _ h => h) (Or.inl ⟨by rfl, ?_⟩) b2y ?_
        case refine_2 =>
          intro w' hSw
          have c0_0' := keepcell hSw c0_0
          have c0_1' := keepcell hSw c0_1
          have c1_0' := keepcell hSw c1_0
          have c1_1' := keepcell hSw c1_1
          go_simp
          try (with_reducible rfl)
        try simp only [Act.put, List.setIfInBounds_toArray, List.set_cons_zero, List.set_cons_succ]
        refine wpM_take (i := 15) (oi := ⟨some 52, _, _, _, _, _⟩) (v := ?_) rfl (by decide +kernel) (by decide +kernel) (by decide +kernel) (fun _ _ _ h => h) (Or.inl ⟨by rfl, ?_⟩) b2y ?_
        case refine_2 =>
          intro w' hSw
          have c0_0' := keepcell hSw c0_0
          have c0_1' := keepcell hSw c0_1
          have c1_0' := keepcell hSw c1_0
          have c1_1' := keepcell hSw c1_1
          go_simp
          try (with_reducible rfl)
        try simp only [Act.put, List.setIfInBounds_toArray, List.set_cons_zero, List.set_cons_succ]
        refine wpM_step (i := 14) (o := ⟨some 51, _, _, _, _, _⟩) rfl (by decide +kernel) (by decide) (fun K hK => ?_)
        go_simp
        refine (own_any t0 A1 n1 c1 R1 y2 (H1.out _ (HB.out.trans (b2y.mono HB.out.size))) hn1).mono ?_
        rintro e y3 ⟨D2, d2, rfl, S2, h3y⟩
        have b3y : Below x6.heap.size x6 y3 := b2y.trans (h3y.mono b2y.size)
        clear h3y
        refine hK.out _ _ b3y ?_
        clear hK K
        try simp only [Act.put, List.setIfInBounds_toArray, List.set_cons_zero, List.set_cons_succ]
        refine wpM_step (i := 16) (o := ⟨some 53, _, _, _, _, _⟩) rfl (by decide +kernel) (by decide) (fun K hK => ?_)
        go_simp
        refine (HM1.out y3 _ _ S2 (H2.out _ (HB.out.trans (b3y.mono HB.out.size)))).mono ?_
        rintro e y4 ⟨rfl, h4y⟩
        have b4y : Below x6.heap.size x6 y4 := b3y.trans (h4y.mono b3y.size)
        clear h4y
        refine hK.out _ _ b4y ?_
        clear hK K
        try simp only [Act.put, List.setIfInBounds_toArray, List.set_cons_zero, List.set_cons_succ]
        refine wpM_take (i := 17) (oi := ⟨some 54, _, _, _, _, _⟩) (v := ?_) rfl (by decide +kernel) (by decide +kernel) (by decide +kernel) (fun _ _ _ h => h) (Or.inl ⟨by rfl, ?_⟩) b4y ?_
        case refine_2 =>
          intro w' hSw
          have c0_0' := keepcell hSw c0_0
          have c0_1' := keepcell hSw c0_1
          have c1_0' := keepcell hSw c1_0
          have c1_1' := keepcell hSw c1_1
          go_simp
          try (with_reducible rfl)
        try simp only [Act.put, List.setIfInBounds_toArray, List.set_cons_zero, List.set_cons_succ]
        refine wpM_take (i := 18) (oi := ⟨some 55, _, _, _, _, _⟩) (v := ?_) rfl (by decide +kernel) (by decide +kernel) (by decide +kernel) (fun _ _ _ h => h) (Or.inl ⟨by rfl, ?_⟩) b4y ?_
        case refine_2 =>
          intro w' hSw
          have c0_0' := keepcell hSw c0_0
          have c0_1' := keepcell hSw c0_1
          have c1_0' := keepcell hSw c1_0
          have c1_1' := keepcell hSw c1_1
          go_simp
          try (with_reducible rfl)
        try simp only [Act.put, List.setIfInBounds_toArray, List.set_cons_zero, List.set_cons_succ]
        refine wpM_take (i := 19) (oi := ⟨some 56, _, _, _, _, _⟩) (v := ?_) rfl (by decide +kernel) (by decide +kernel) (by decide +kernel) (fun _ _ _ h => h) (Or.inl ⟨by rfl, ?_⟩) b4y ?_
        case refine_2 =>
          intro w' hSw
          have c0_0' := keepcell hSw c0_0
          have c0_1' := keepcell hSw c0_1
          have c1_0' := keepcell hSw c1_0
          have c1_1' := keepcell hSw c1_1
          go_simp
          try (with_reducible rfl)
        try simp only [Act.put, List.setIfInBounds_toArray, List.set_cons_zero, List.set_cons_succ]
        refine wpM_take (i := 20) (oi := ⟨some 57, _, _, _, _, _⟩) (v := ?_) rfl (by decide +kernel) (by decide +kernel) (by decide +kernel) (fun _ _ _ h => h) (Or.inl ⟨by rfl, ?_⟩) b4y ?_
        case refine_2 =>
          intro w' hSw
          have c0_0' := keepcell hSw c0_0
          have c0_1' := keepcell hSw c0_1
          have c1_0' := keepcell hSw c1_0
          have c1_1' := keepcell hSw c1_1
          go_simp
          try (with_reducible rfl)
        try simp only [Act.put, List.setIfInBounds_toArray, List.set_cons_zero, List.set_cons_succ]
        refine wpM_take (i := 22) (oi := ⟨some 59, _, _, _, _, _⟩) (v := ?_) rfl (by decide +kernel) (by decide +kernel) (by decide +kernel) (fun _ _ _ h => h) (Or.inl ⟨by rfl, ?_⟩) b4y ?_
        case refine_2 =>
          intro w' hSw
          have c0_0' := keepcell hSw c0_0
          have c0_1' := keepcell hSw c0_1
          have c1_0' := keepcell hSw c1_0
          have c1_1' := keepcell hSw c1_1
          go_simp
          try (with_reducible rfl)
        try simp only [Act.put, List.setIfInBounds_toArray, List.set_cons_zero, List.set_cons_succ]
        refine wpM_step (i := 21) (o := ⟨some 58, _, _, _, _, _⟩) rfl (by decide +kernel) (by decide) (fun K hK => ?_)
        go_simp
        refine (own_any t0 A0 n0 c0 R0 y4 (H0.out _ (HB.out.trans (b4y.mono HB.out.size))) hn0).mono ?_
        rintro e y5 ⟨D3, d3, rfl, S3, h5y⟩
        have b5y : Below x6.heap.size x6 y5 := b4y.trans (h5y.mono b4y.size)
        clear h5y
        refine hK.out _ _ b5y ?_
        clear hK K
        try simp only [Act.put, List.setIfInBounds_toArray, List.set_cons_zero, List.set_cons_succ]
        refine wpM_step (i := 23) (o := ⟨some 60, _, _, _, _, _⟩) rfl (by decide +kernel) (by decide) (fun K hK => ?_)
        go_simp
        refine (own_any t0 A1 n1 c1 R1 y5 (H1.out _ (HB.out.trans (b5y.mono HB.out.size))) hn1).mono ?_
        rintro e y6 ⟨D4, d4, rfl, S4, h6y⟩
        have b6y : Below x6.heap.size x6 y6 := b5y.trans (h6y.mono b5y.size)
        have S3 := S3.below h6y
        clear h6y
        refine hK.out _ _ b6y ?_
        clear hK K
        try simp only [Act.put, List.setIfInBounds_toArray, List.set_cons_zero, List.set_cons_succ]
        refine wpM_step (i := 24) (o := ⟨some 61, _, _, _, _, _⟩) rfl (by decide +kernel) (by decide) (fun K hK => ?_)
        go_simp
        refine (Meet_any t0 t0 _ n0 _ R0 _ n1 _ R1 y6 S3 S4 hn0 hn1).mono ?_
        rintro e y7 ⟨rfl, h7y⟩
        have b7y : Below x6.heap.size x6 y7 := b6y.trans (h7y.mono b6y.size)
        clear h7y
        rw [HMT.out]
        refine hK.out _ _ b7y ?_
        clear hK K
        try simp only [Act.put, List.setIfInBounds_toArray, List.set_cons_zero, List.set_cons_succ]
        refine wpM_take (i := 25) (oi := ⟨some 62, _, _, _, _, _⟩) (v := ?_) rfl (by decide +kernel) (by decide +kernel) (by decide +kernel) (fun _ _ _ h => h) (Or.inl ⟨by rfl, ?_⟩) b7y ?_
        case refine_2 =>
          intro w' hSw
          have c0_0' := keepcell hSw c0_0
          have c0_1' := keepcell hSw c0_1
          have c1_0' := keepcell hSw c1_0
          have c1_1' := keepcell hSw c1_1
          go_simp
          try (with_reducible rfl)
        try simp only [Act.put, List.setIfInBounds_toArray, List.set_cons_zero, List.set_cons_succ]
        refine wpM_done (by decide +kernel) ?_
        simp only [List.drop_succ_cons, List.drop_zero]
        go_wp2
        go_ret
        exact ⟨rfl, HB.out.trans (b7y.mono HB.out.size)⟩
  · have hne : (t0 == t1) = false := by simpa using htt
    have hne2 : (t0 != t1) = true := by simpa using htt
    clear htt
    have c0_0 : x6.cell? ⟨w.heap.size, 0, none⟩ = some (.int .i64 t0) := K0.out.cell 0
    have c0_1 : x6.cell? ⟨w.heap.size, 1, none⟩ = some (.slice A0 n0 c0) := K0.out.cell 1
    have c1_0 : x6.cell? ⟨w.heap.size + 1, 0, none⟩ = some (.int .i64 t1) := K1.out.cell 0
    have c1_1 : x6.cell? ⟨w.heap.size + 1, 1, none⟩ = some (.slice A1 n1 c1) := K1.out.cell 1
    go_wp2_with fail
    have hb : Below x6.heap.size x6 x6.drew := below_drew (Below.refl _ _)
    refine wp_region_mix 26 (fun w' => Below x6.heap.size x6 w') (by kernel_rfl) (by decide) ?_
    generalize x6.drew = y0 at hb ⊢
    refine wpM_take (i := 0) (oi := ⟨some 37, _, _, _, _, _⟩) (v := ?_) rfl (by decide +kernel) (by decide +kernel) (by decide +kernel) (fun _ _ _ h => h) (Or.inl ⟨by rfl, ?_⟩) hb ?_
    case refine_2 =>
      intro w' hSw
      have c0_0' := keepcell hSw c0_0
      have c0_1' := keepcell hSw c0_1
      have c1_0' := keepcell hSw c1_0
      have c1_1' := keepcell hSw c1_1
      go_simp
      try (with_reducible rfl)
    try simp only [Act.put, List.setIfInBounds_toArray, List.set_cons_zero, List.set_cons_succ]
    refine wpM_take (i := 1) (oi := ⟨some 38, _, _, _, _, _⟩) (v := ?_) rfl (by decide +kernel) (by decide +kernel) (by decide +kernel) (fun _ _ _ h => h) (Or.inl ⟨by rfl, ?_⟩) hb ?_
    case refine_2 =>
      intro w' hSw
      have c0_0' := keepcell hSw c0_0
      have c0_1' := keepcell hSw c0_1
      have c1_0' := keepcell hSw c1_0
      have c1_1' := keepcell hSw c1_1
      go_simp
      try (with_reducible rfl)
    try simp only [Act.put, List.setIfInBounds_toArray, List.set_cons_zero, List.set_cons_succ]
    refine wpM_take (i := 2) (oi := ⟨some 39, _, _, _, _, _⟩) (v := ?_) rfl (by decide +kernel) (by decide +kernel) (by decide +kernel) (fun _ _ _ h => h) (Or.inl ⟨by rfl, ?_⟩) hb ?_
    case refine_2 =>
      intro w' hSw
      have c0_0' := keepcell hSw c0_0
      have c0_1' := keepcell hSw c0_1
      have c1_0' := keepcell hSw c1_0
      have c1_1' := keepcell hSw c1_1
      go_simp
      try (with_reducible rfl)
    try simp only [Act.put, List.setIfInBounds_toArray, List.set_cons_zero, List.set_cons_succ]
    refine wpM_take (i := 3) (oi := ⟨some 40, _, _, _, _, _⟩) (v := ?_) rfl (by decide +kernel) (by decide +kernel) (by decide +kernel) (fun _ _ _ h => h) (Or.inl ⟨by rfl, ?_⟩) hb ?_
    case refine_2 =>
      intro w' hSw
      have c0_0' := keepcell hSw c0_0
      have c0_1' := keepcell hSw c0_1
      have c1_0' := keepcell hSw c1_0
      have c1_1' := keepcell hSw c1_1
      go_simp
      try (with_reducible rfl)
    try simp only [Act.put, List.setIfInBounds_toArray, List.set_cons_zero, List.set_cons_succ]
    refine wpM_take (i := 4) (oi := ⟨some 41, _, _, _, _, _⟩) (v := ?_) rfl (by decide +kernel) (by decide +kernel) (by decide +kernel) (fun _ _ _ h => h) (Or.inl ⟨by rfl, ?_⟩) hb ?_
    case refine_2 =>
      intro w' hSw
      have c0_0' := keepcell hSw c0_0
      have c0_1' := keepcell hSw c0_1
      have c1_0' := keepcell hSw c1_0
      have c1_1' := keepcell hSw c1_1
      go_simp
      try (with_reducible rfl)
    try simp only [Act.put, List.setIfInBounds_toArray, List.set_cons_zero, List.set_cons_succ]
    refine wpM_take (i := 5) (oi := ⟨some 42, _, _, _, _, _⟩) (v := ?_) rfl (by decide +kernel) (by decide +kernel) (by decide +kernel) (fun _ _ _ h => h) (Or.inl ⟨by rfl, ?_⟩) hb ?_
    case refine_2 =>
      intro w' hSw
      have c0_0' := keepcell hSw c0_0
      have c0_1' := keepcell hSw c0_1
      have c1_0' := keepcell hSw c1_0
      have c1_1' := keepcell hSw c1_1
      go_simp
      try (with_reducible rfl)
    try simp only [Act.put, List.setIfInBounds_toArray, List.set_cons_zero, List.set_cons_succ]
    refine wpM_take (i := 6) (oi := ⟨some 43, _, _, _, _, _⟩) (v := undef) rfl (by decide +kernel) (by decide +kernel) (by decide +kernel) (fun _ _ _ h => h) (Or.inr ⟨by rfl, rfl⟩) hb ?_
    try simp only [Act.put, List.setIfInBounds_toArray, List.set_cons_zero, List.set_cons_succ]
    refine wpM_take (i := 7) (oi := ⟨some 44, _, _, _, _, _⟩) (v := undef) rfl (by decide +kernel) (by decide +kernel) (by decide +kernel) (fun _ _ _ h => h) (Or.inr ⟨by rfl, rfl⟩) hb ?_
    try simp only [Act.put, List.setIfInBounds_toArray, List.set_cons_zero, List.set_cons_succ]
    refine wpM_take (i := 8) (oi := ⟨some 45, _, _, _, _, _⟩) (v := undef) rfl (by decide +kernel) (by decide +kernel) (by decide +kernel) (fun _ _ _ h => h) (Or.inr ⟨by rfl, rfl⟩) hb ?_
    try simp only [Act.put, List.setIfInBounds_toArray, List.set_cons_zero, List.set_cons_succ]
    refine wpM_take (i := 9) (oi := ⟨some 46, _, _, _, _, _⟩) (v := undef) rfl (by decide +kernel) (by decide +kernel) (by decide +kernel) (fun _ _ _ h => h) (Or.inr ⟨by rfl, rfl⟩) hb ?_
    try simp only [Act.put, List.setIfInBounds_toArray, List.set_cons_zero, List.set_cons_succ]
    refine wpM_take (i := 10) (oi := ⟨some 47, _, _, _, _, _⟩) (v := undef) rfl (by decide +kernel) (by decide +kernel) (by decide +kernel) (fun _ _ _ h => h) (Or.inr ⟨by rfl, rfl⟩) hb ?_
    try simp only [Act.put, List.setIfInBounds_toArray, List.set_cons_zero, List.set_cons_succ]
    refine wpM_take (i := 11) (oi := ⟨some 48, _, _, _, _, _⟩) (v := ?_) rfl (by decide +kernel) (by decide +kernel) (by decide +kernel) (fun _ _ _ h => h) (Or.inl ⟨by rfl, ?_⟩) hb ?_
    case refine_2 =>
      intro w' hSw
      have c0_0' := keepcell hSw c0_0
      have c0_1' := keepcell hSw c0_1
      have c1_0' := keepcell hSw c1_0
      have c1_1' := keepcell hSw c1_1
      go_simp
      try (with_reducible rfl)
    try simp only [Act.put, List.setIfInBounds_toArray, List.set_cons_zero, List.set_cons_succ]
    refine wpM_take (i := 12) (oi := ⟨some 49, _, _, _, _, _⟩) (v := ?_) rfl (by decide +kernel) (by decide +kernel) (by decide +kernel) (fun _ _ _ h => h) (Or.inl ⟨by rfl, ?_⟩) hb ?_
    case refine_2 =>
      intro w' hSw
      have c0_0' := keepcell hSw c0_0
      have c0_1' := keepcell hSw c0_1
      have c1_0' := keepcell hSw c1_0
      have c1_1' := keepcell hSw c1_1
      go_simp
      try (with_reducible rfl)
    try simp only [Act.put, List.setIfInBounds_toArray, List.set_cons_zero, List.set_cons_succ]
    refine wpM_take (i := 13) (oi := ⟨some 50, _, _, _, _, _⟩) (v := undef) rfl (by decide +kernel) (by decide +kernel) (by decide +kernel) (fun _ _ _ h => h) (Or.inr ⟨by rfl, rfl⟩) hb ?_
    try simp only [Act.put, List.setIfInBounds_toArray, List.set_cons_zero, List.set_cons_succ]
    refine wpM_take (i := 14) (oi := ⟨some 51, _, _, _, _, _⟩) (v := undef) rfl (by decide +kernel) (by decide +kernel) (by decide +kernel) (fun _ _ _ h => h) (Or.inr ⟨by rfl, rfl⟩) hb ?_
    try simp only [Act.put, List.setIfInBounds_toArray, List.set_cons_zero, List.set_cons_succ]
    refine wpM_take (i := 15) (oi := ⟨some 52, _, _, _, _, _⟩) (v := undef) rfl (by decide +kernel) (by decide +kernel) (by decide +kernel) (fun _ _ _ h => h) (Or.inr ⟨by rfl, rfl⟩) hb ?_
    try simp only [Act.put, List.setIfInBounds_toArray, List.set_cons_zero, List.set_cons_succ]
    refine wpM_take (i := 16) (oi := ⟨some 53, _, _, _, _, _⟩) (v := undef) rfl (by decide +kernel) (by decide +kernel) (by decide +kernel) (fun _ _ _ h => h) (Or.inr ⟨by rfl, rfl⟩) hb ?_
    try simp only [Act.put, List.setIfInBounds_toArray, List.set_cons_zero, List.set_cons_succ]
    refine wpM_take (i := 17) (oi := ⟨some 54, _, _, _, _, _⟩) (v := undef) rfl (by decide +kernel) (by decide +kernel) (by decide +kernel) (fun _ _ _ h => h) (Or.inr ⟨by rfl, rfl⟩) hb ?_
    try simp only [Act.put, List.setIfInBounds_toArray, List.set_cons_zero, List.set_cons_succ]
    refine wpM_take (i := 18) (oi := ⟨some 55, _, _, _, _, _⟩) (v := ?_) rfl (by decide +kernel) (by decide +kernel) (by decide +kernel) (fun _ _ _ h => h) (Or.inl ⟨by rfl, ?_⟩) hb ?_
    case refine_2 =>
      intro w' hSw
      have c0_0' := keepcell hSw c0_0
      have c0_1' := keepcell hSw c0_1
      have c1_0' := keepcell hSw c1_0
      have c1_1' := keepcell hSw c1_1
      go_simp
      try (with_reducible rfl)
    try simp only [Act.put, List.setIfInBounds_toArray, List.set_cons_zero, List.set_cons_succ]
    refine wpM_take (i := 19) (oi := ⟨some 56, _, _, _, _, _⟩) (v := ?_) rfl (by decide +kernel) (by decide +kernel) (by decide +kernel) (fun _ _ _ h => h) (Or.inl ⟨by rfl, ?_⟩) hb ?_
    case refine_2 =>
      intro w' hSw
      have c0_0' := keepcell hSw c0_0
      have c0_1' := keepcell hSw c0_1
      have c1_0' := keepcell hSw c1_0
      have c1_1' := keepcell hSw c1_1
      go_simp
      try (with_reducible rfl)
    try simp only [Act.put, List.setIfInBounds_toArray, List.set_cons_zero, List.set_cons_succ]
    refine wpM_take (i := 20) (oi := ⟨some 57, _, _, _, _, _⟩) (v := undef) rfl (by decide +kernel) (by decide +kernel) (by decide +kernel) (fun _ _ _ h => h) (Or.inr ⟨by rfl, rfl⟩) hb ?_
    try simp only [Act.put, List.setIfInBounds_toArray, List.set_cons_zero, List.set_cons_succ]
    refine wpM_take (i := 21) (oi := ⟨some 58, _, _, _, _, _⟩) (v := undef) rfl (by decide +kernel) (by decide +kernel) (by decide +kernel) (fun _ _ _ h => h) (Or.inr ⟨by rfl, rfl⟩) hb ?_
    try simp only [Act.put, List.setIfInBounds_toArray, List.set_cons_zero, List.set_cons_succ]
    refine wpM_take (i := 22) (oi := ⟨some 59, _, _, _, _, _⟩) (v := undef) rfl (by decide +kernel) (by decide +kernel) (by decide +kernel) (fun _ _ _ h => h) (Or.inr ⟨by rfl, rfl⟩) hb ?_
    try simp only [Act.put, List.setIfInBounds_toArray, List.set_cons_zero, List.set_cons_succ]
    refine wpM_take (i := 23) (oi := ⟨some 60, _, _, _, _, _⟩) (v := undef) rfl (by decide +kernel) (by decide +kernel) (by decide +kernel) (fun _ _ _ h => h) (Or.inr ⟨by rfl, rfl⟩) hb ?_
    try simp only [Act.put, List.setIfInBounds_toArray, List.set_cons_zero, List.set_cons_succ]
    refine wpM_take (i := 24) (oi := ⟨some 61, _, _, _, _, _⟩) (v := undef) rfl (by decide +kernel) (by decide +kernel) (by decide +kernel) (fun _ _ _ h => h) (Or.inr ⟨by rfl, rfl⟩) hb ?_
    try simp only [Act.put, List.setIfInBounds_toArray, List.set_cons_zero, List.set_cons_succ]
    refine wpM_take (i := 25) (oi := ⟨some 62, _, _, _, _, _⟩) (v := ?_) rfl (by decide +kernel) (by decide +kernel) (by decide +kernel) (fun _ _ _ h => h) (Or.inl ⟨by rfl, ?_⟩) hb ?_
    case refine_2 =>
      intro w' hSw
      have c0_0' := keepcell hSw c0_0
      have c0_1' := keepcell hSw c0_1
      have c1_0' := keepcell hSw c1_0
      have c1_1' := keepcell hSw c1_1
      go_simp
      try (with_reducible rfl)
    try simp only [Act.put, List.setIfInBounds_toArray, List.set_cons_zero, List.set_cons_succ]
    refine wpM_done (by decide +kernel) ?_
    simp only [List.drop_succ_cons, List.drop_zero]
    go_wp2
    go_ret
    exact ⟨rfl, HB.out.trans (hb.mono HB.out.size)⟩

set_option maxRecDepth 100000 in
theorem boxCommon_lifted (os : Os) (started : os.Started) (H : Type) (enc : TypeId × Value → H) :
    ReturnsInHanded {} Try.checked os 5 .any (Rows.boxCommonSpec.pre6 enc Try.prog Try.f5 Rows.boxCommonRow.domain false) (Rows.boxCommonSpec.post enc Try.prog Try.f5 false true false false) := by
  refine law_lifted (C := Try.checked) (B := 4) Try.own started (by kernel_rfl) Try.func5
    (ChangeSpec.witness6 (enc := enc) (C := Try.checked) false ⟨#[], #[.agg #[.int .i64 0, .slice none 0 0], .agg #[.int .i64 0, .slice none 0 0], .slice none 0 0], []⟩ 8 (by kernel_rfl) (by kernel_rfl) (by kernel_rfl) (by kernel_rfl))
    Try.laidOut (by kernel_rfl) rfl rfl rfl Try.underlying4 (fun ds h => match ds, h with | [_, _, _], _ => rfl) ?_
  intro W base args ds ps hval hA hlt hsz
  rw [Try.params5] at hA hval hsz
  obtain ⟨v0, vs0, d0, ds0, p0, q0, hargs, rfl, rfl, h0, r0⟩ := trodAll_cons hA
  obtain ⟨v1, vs1, d1, ds1, p1, q1, rfl, rfl, rfl, h1, r1⟩ := trodAll_cons r0
  obtain ⟨v2, vs2, d2, ds2, p2, q2, rfl, rfl, rfl, h2, r2⟩ := trodAll_cons r1
  obtain ⟨rfl, rfl, rfl⟩ := trodAll_nil r2
  obtain rfl : args = #[v0, v1, v2] := by cases args; simp_all
  obtain ⟨x0, A0, n0, c0, R0, rfl, -, l0⟩ := open_Box (hval 0 24 v0 rfl rfl) h0 (fun x hx => hlt x (by simp [hx])) hsz (j := 0) rfl rfl
  obtain ⟨x1, A1, n1, c1, R1, rfl, -, l1⟩ := open_Box (hval 1 24 v1 rfl rfl) h1 (fun x hx => hlt x (by simp [hx])) hsz (j := 1) rfl rfl
  obtain ⟨A2, n2, c2, R2, rfl, k2, l2, g2⟩ := open_row (hval 2 26 v2 rfl rfl) h2 (fun x hx => hlt x (by simp [hx])) hsz (j := 2) rfl rfl
  exact boxCommon_walk x0 A0 n0 c0 R0 x1 A1 n1 c1 R1 A2 n2 c2 R2 W l0 l1 k2 l2 g2

theorem boxCommon_over : Rows.boxCommonRow.holds Try.pinned (OpenSpec.ofChange Rows.boxCommonSpec) :=
  OpenClaim.holds_of_wide 5 Try.f5 rfl rfl rfl rfl rfl rfl rfl ⟨rfl, rfl, rfl, rfl, rfl⟩ rfl rfl rfl rfl rfl (by kernel_rfl) Try.func5 (by kernel_rfl)
    (of_decide_eq_true (by kernel_rfl)) (by unfold Func.isWrapper; first | (rw [if_pos (by decide +kernel)]; kernel_rfl) | (rw [if_neg (by decide +kernel)]; exact ⟨rfl, rfl⟩))
    (fun os started H enc _ => boxCommon_lifted os started H enc)

theorem boxCommon_proved : Rows.BoxCommonSaid := boxCommon_over
end Go.Proofs.Ytcocdhndhlegiaa
