/- The law on values, of a case that lies in memory. -/
import Derived.Test.YtfhbffgnpedaeaaEsm
import Derived.Test.YtfhbffgnpedaeaaEaw
import Derived.Test.YtfhbffgnpedaeaaMix
namespace Go.Proofs.Ytfhbffgnpedaeaa
open Go.ChangeShapes Go.WideShapes Go.ChangeAt Go.RowKit Go.ChangeMaps

set_option maxRecDepth 100000 in
set_option maxHeartbeats 4000000 in
theorem value_law (L : List Va) (R : List V3) (x : Ex) (A0 A : Option Addr) (n0 c0 n c : Nat) (w : World) (h : ExAt w x) (hL : Vas w A0 n0 L) (hR : Vls w A n R) (hn : n ≤ 9223372036854775807) (hok : ∀ v ∈ R, v.ok) : Calls Try.prog 3 #[caseAgg x A0 A n0 c0 n c] w fun e w' => e = .returned (.bool true) ∧ Below w.heap.size w w' := by
  have C1 := Lib.hid (fun W (hW : Below w.heap.size w W) => fits_any L R x A0 A n0 c0 n c 1 W (h.keep hW) (hL.below hW) (hR.below hW) hn hok)
  have C2 := Lib.hid (fun W (hW : Below w.heap.size w W) => fits_any L R x A0 A n0 c0 n c 2 W (h.keep hW) (hL.below hW) (hR.below hW) hn hok)
  obtain ⟨f1, hf1⟩ : ∃ u, (fitM L 1 x && rwM L R) = u := ⟨_, rfl⟩
  obtain ⟨f2, hf2⟩ : ∃ u, (fitM L 2 x && rwM L R) = u := ⟨_, rfl⟩
  simp only [hf1, hf2] at C1 C2
  have HV0 : f1 = true ∨ f2 = true → ExSm x ∧ VOk R x := by
    rintro (g | g)
    · rw [g, Bool.and_eq_true] at hf1
      exact ⟨fit_sm L 1 x hf1.1 (by decide), fit_vok L R 1 x hf1.1 (.inl rfl) hf1.2⟩
    · rw [g, Bool.and_eq_true] at hf2
      exact ⟨fit_sm L 2 x hf2.1 (by decide), fit_vok L R 2 x hf2.1 (.inr rfl) hf2.2⟩
  have HV := Lib.hid HV0
  have CV0 := Lib.hid (fun (hs : ExSm x) W (hW : Below w.heap.size w W) => Value_any R x W A n c (h.keep hW) hs (hR.below hW) hn hok)
  have CR0 := Lib.hid (fun (hs : VOk R x) W (hW : Below w.heap.size w W) => RValue_any R x hs W A n c (h.keep hW) (hR.below hW) hok)
  obtain ⟨ev, hev⟩ : ∃ v, evM R x = v := ⟨_, rfl⟩
  simp only [hev] at CV0 CR0
  clear hf1 hf2 HV0 hev h hL hR hok
  unfold caseAgg at *
  unfold Ex.agg V3.agg at CV0 CR0
  obtain ⟨W0, hW0⟩ : ∃ W, W = w.alloc (.cells #[.int .i64 x.op, .string x.tb, .string x.nm, .int .i64 x.ix, .int .i64 x.v.k, .int .i64 x.v.n, .string x.v.s, .slice x.A x.args.length x.c, .slice A0 n0 c0, .slice A n c] 31) := ⟨_, rfl⟩
  have HB1 := Lib.hid (show Below w.heap.size w W0 by rw [hW0]; exact (Below.refl _ w).alloc (Nat.le_refl _) _)
  have K1 := Lib.hid (show Blk W0 w.heap.size 31 #[.int .i64 x.op, .string x.tb, .string x.nm, .int .i64 x.ix, .int .i64 x.v.k, .int .i64 x.v.n, .string x.v.s, .slice x.A x.args.length x.c, .slice A0 n0 c0, .slice A n c] by rw [hW0]; exact Blk.new _ _ _)
  have K1_0 : W0.cell? ⟨w.heap.size, 0, none⟩ = some (.int .i64 x.op) := K1.out.cell 0
  have K1_1 : W0.cell? ⟨w.heap.size, 1, none⟩ = some (.string x.tb) := K1.out.cell 1
  have K1_2 : W0.cell? ⟨w.heap.size, 2, none⟩ = some (.string x.nm) := K1.out.cell 2
  have K1_3 : W0.cell? ⟨w.heap.size, 3, none⟩ = some (.int .i64 x.ix) := K1.out.cell 3
  have K1_4 : W0.cell? ⟨w.heap.size, 4, none⟩ = some (.int .i64 x.v.k) := K1.out.cell 4
  have K1_5 : W0.cell? ⟨w.heap.size, 5, none⟩ = some (.int .i64 x.v.n) := K1.out.cell 5
  have K1_6 : W0.cell? ⟨w.heap.size, 6, none⟩ = some (.string x.v.s) := K1.out.cell 6
  have K1_7 : W0.cell? ⟨w.heap.size, 7, none⟩ = some (.slice x.A x.args.length x.c) := K1.out.cell 7
  have K1_8 : W0.cell? ⟨w.heap.size, 8, none⟩ = some (.slice A0 n0 c0) := K1.out.cell 8
  have K1_9 : W0.cell? ⟨w.heap.size, 9, none⟩ = some (.slice A n c) := K1.out.cell 9
  have K1_l : w.heap.size < W0.heap.size := K1.out.lt
  go_enter Try.func3, Try.ntmps3
  go_upto_region 1 with fail
  rw [← hW0]
  clear hW0
  go_wp2_with fail
  refine (awake_any _).mono ?_
  rintro e w1 ⟨rfl, hb⟩
  have HB2 := Lib.hid (HB1.out.trans (hb.mono HB1.out.size))
  have K2 := Lib.hid (K1.out.below hb)
  clear hb
  clear K1_0 K1_1 K1_2 K1_3 K1_4 K1_5 K1_6 K1_7 K1_8 K1_9 K1_l
  have K2_0 : w1.cell? ⟨w.heap.size, 0, none⟩ = some (.int .i64 x.op) := K2.out.cell 0
  have K2_1 : w1.cell? ⟨w.heap.size, 1, none⟩ = some (.string x.tb) := K2.out.cell 1
  have K2_2 : w1.cell? ⟨w.heap.size, 2, none⟩ = some (.string x.nm) := K2.out.cell 2
  have K2_3 : w1.cell? ⟨w.heap.size, 3, none⟩ = some (.int .i64 x.ix) := K2.out.cell 3
  have K2_4 : w1.cell? ⟨w.heap.size, 4, none⟩ = some (.int .i64 x.v.k) := K2.out.cell 4
  have K2_5 : w1.cell? ⟨w.heap.size, 5, none⟩ = some (.int .i64 x.v.n) := K2.out.cell 5
  have K2_6 : w1.cell? ⟨w.heap.size, 6, none⟩ = some (.string x.v.s) := K2.out.cell 6
  have K2_7 : w1.cell? ⟨w.heap.size, 7, none⟩ = some (.slice x.A x.args.length x.c) := K2.out.cell 7
  have K2_8 : w1.cell? ⟨w.heap.size, 8, none⟩ = some (.slice A0 n0 c0) := K2.out.cell 8
  have K2_9 : w1.cell? ⟨w.heap.size, 9, none⟩ = some (.slice A n c) := K2.out.cell 9
  have K2_l : w.heap.size < w1.heap.size := K2.out.lt
  go_wp2_with fail
  refine (C1.out _ HB2.out).mono ?_
  rintro e w2 ⟨rfl, hb⟩
  have HB3 := Lib.hid (HB2.out.trans (hb.mono HB2.out.size))
  have K3 := Lib.hid (K2.out.below hb)
  clear hb
  clear K2_0 K2_1 K2_2 K2_3 K2_4 K2_5 K2_6 K2_7 K2_8 K2_9 K2_l
  have K3_0 : w2.cell? ⟨w.heap.size, 0, none⟩ = some (.int .i64 x.op) := K3.out.cell 0
  have K3_1 : w2.cell? ⟨w.heap.size, 1, none⟩ = some (.string x.tb) := K3.out.cell 1
  have K3_2 : w2.cell? ⟨w.heap.size, 2, none⟩ = some (.string x.nm) := K3.out.cell 2
  have K3_3 : w2.cell? ⟨w.heap.size, 3, none⟩ = some (.int .i64 x.ix) := K3.out.cell 3
  have K3_4 : w2.cell? ⟨w.heap.size, 4, none⟩ = some (.int .i64 x.v.k) := K3.out.cell 4
  have K3_5 : w2.cell? ⟨w.heap.size, 5, none⟩ = some (.int .i64 x.v.n) := K3.out.cell 5
  have K3_6 : w2.cell? ⟨w.heap.size, 6, none⟩ = some (.string x.v.s) := K3.out.cell 6
  have K3_7 : w2.cell? ⟨w.heap.size, 7, none⟩ = some (.slice x.A x.args.length x.c) := K3.out.cell 7
  have K3_8 : w2.cell? ⟨w.heap.size, 8, none⟩ = some (.slice A0 n0 c0) := K3.out.cell 8
  have K3_9 : w2.cell? ⟨w.heap.size, 9, none⟩ = some (.slice A n c) := K3.out.cell 9
  have K3_l : w.heap.size < w2.heap.size := K3.out.lt
  cases f1
  case true =>
    have CV := Lib.hid (CV0.out (HV.out (by simp)).1)
    have CR := Lib.hid (CR0.out (HV.out (by simp)).2)
    clear CV0 CR0 HV
    go_upto_region 3 with fail
    have hb : Below w2.heap.size w2 w2.drew := below_drew (Below.refl _ _)
    refine wp_region_mix 11 (fun w' => Below w2.heap.size w2 w') (by kernel_rfl) (by decide) ?_
    generalize w2.drew = y0 at hb ⊢
    refine wpM_take (i := 0) (oi := ⟨some 16, _, _, _, _, _⟩) (v := ?_) rfl (by decide +kernel) (by decide +kernel) (by decide +kernel) (fun _ _ _ h => h) (Or.inl ⟨by rfl, ?_⟩) hb ?_
    case refine_2 =>
      intro w' hSw
      have K3_0' := keepcell hSw K3_0
      have K3_1' := keepcell hSw K3_1
      have K3_2' := keepcell hSw K3_2
      have K3_3' := keepcell hSw K3_3
      have K3_4' := keepcell hSw K3_4
      have K3_5' := keepcell hSw K3_5
      have K3_6' := keepcell hSw K3_6
      have K3_7' := keepcell hSw K3_7
      have K3_8' := keepcell hSw K3_8
      have K3_9' := keepcell hSw K3_9
      go_simp
      try (with_reducible rfl)
    try simp only [Act.put, List.setIfInBounds_toArray, List.set_cons_zero, List.set_cons_succ]
    refine wpM_take (i := 1) (oi := ⟨some 17, _, _, _, _, _⟩) (v := ?_) rfl (by decide +kernel) (by decide +kernel) (by decide +kernel) (fun _ _ _ h => h) (Or.inl ⟨by rfl, ?_⟩) hb ?_
    case refine_2 =>
      intro w' hSw
      have K3_0' := keepcell hSw K3_0
      have K3_1' := keepcell hSw K3_1
      have K3_2' := keepcell hSw K3_2
      have K3_3' := keepcell hSw K3_3
      have K3_4' := keepcell hSw K3_4
      have K3_5' := keepcell hSw K3_5
      have K3_6' := keepcell hSw K3_6
      have K3_7' := keepcell hSw K3_7
      have K3_8' := keepcell hSw K3_8
      have K3_9' := keepcell hSw K3_9
      go_simp
      try (with_reducible rfl)
    try simp only [Act.put, List.setIfInBounds_toArray, List.set_cons_zero, List.set_cons_succ]
    refine wpM_take (i := 2) (oi := ⟨some 18, _, _, _, _, _⟩) (v := ?_) rfl (by decide +kernel) (by decide +kernel) (by decide +kernel) (fun _ _ _ h => h) (Or.inl ⟨by rfl, ?_⟩) hb ?_
    case refine_2 =>
      intro w' hSw
      have K3_0' := keepcell hSw K3_0
      have K3_1' := keepcell hSw K3_1
      have K3_2' := keepcell hSw K3_2
      have K3_3' := keepcell hSw K3_3
      have K3_4' := keepcell hSw K3_4
      have K3_5' := keepcell hSw K3_5
      have K3_6' := keepcell hSw K3_6
      have K3_7' := keepcell hSw K3_7
      have K3_8' := keepcell hSw K3_8
      have K3_9' := keepcell hSw K3_9
      go_simp
      try (with_reducible rfl)
    try simp only [Act.put, List.setIfInBounds_toArray, List.set_cons_zero, List.set_cons_succ]
    refine wpM_take (i := 3) (oi := ⟨some 19, _, _, _, _, _⟩) (v := ?_) rfl (by decide +kernel) (by decide +kernel) (by decide +kernel) (fun _ _ _ h => h) (Or.inl ⟨by rfl, ?_⟩) hb ?_
    case refine_2 =>
      intro w' hSw
      have K3_0' := keepcell hSw K3_0
      have K3_1' := keepcell hSw K3_1
      have K3_2' := keepcell hSw K3_2
      have K3_3' := keepcell hSw K3_3
      have K3_4' := keepcell hSw K3_4
      have K3_5' := keepcell hSw K3_5
      have K3_6' := keepcell hSw K3_6
      have K3_7' := keepcell hSw K3_7
      have K3_8' := keepcell hSw K3_8
      have K3_9' := keepcell hSw K3_9
      go_simp
      try (with_reducible rfl)
    try simp only [Act.put, List.setIfInBounds_toArray, List.set_cons_zero, List.set_cons_succ]
    refine wpM_take (i := 5) (oi := ⟨some 21, _, _, _, _, _⟩) (v := ?_) rfl (by decide +kernel) (by decide +kernel) (by decide +kernel) (fun _ _ _ h => h) (Or.inl ⟨by rfl, ?_⟩) hb ?_
    case refine_2 =>
      intro w' hSw
      have K3_0' := keepcell hSw K3_0
      have K3_1' := keepcell hSw K3_1
      have K3_2' := keepcell hSw K3_2
      have K3_3' := keepcell hSw K3_3
      have K3_4' := keepcell hSw K3_4
      have K3_5' := keepcell hSw K3_5
      have K3_6' := keepcell hSw K3_6
      have K3_7' := keepcell hSw K3_7
      have K3_8' := keepcell hSw K3_8
      have K3_9' := keepcell hSw K3_9
      go_simp
      try (with_reducible rfl)
    try simp only [Act.put, List.setIfInBounds_toArray, List.set_cons_zero, List.set_cons_succ]
    refine wpM_take (i := 6) (oi := ⟨some 22, _, _, _, _, _⟩) (v := ?_) rfl (by decide +kernel) (by decide +kernel) (by decide +kernel) (fun _ _ _ h => h) (Or.inl ⟨by rfl, ?_⟩) hb ?_
    case refine_2 =>
      intro w' hSw
      have K3_0' := keepcell hSw K3_0
      have K3_1' := keepcell hSw K3_1
      have K3_2' := keepcell hSw K3_2
      have K3_3' := keepcell hSw K3_3
      have K3_4' := keepcell hSw K3_4
      have K3_5' := keepcell hSw K3_5
      have K3_6' := keepcell hSw K3_6
      have K3_7' := keepcell hSw K3_7
      have K3_8' := keepcell hSw K3_8
      have K3_9' := keepcell hSw K3_9
      go_simp
      try (with_reducible rfl)
    try simp only [Act.put, List.setIfInBounds_toArray, List.set_cons_zero, List.set_cons_succ]
    refine wpM_take (i := 7) (oi := ⟨some 23, _, _, _, _, _⟩) (v := ?_) rfl (by decide +kernel) (by decide +kernel) (by decide +kernel) (fun _ _ _ h => h) (Or.inl ⟨by rfl, ?_⟩) hb ?_
    case refine_2 =>
      intro w' hSw
      have K3_0' := keepcell hSw K3_0
      have K3_1' := keepcell hSw K3_1
      have K3_2' := keepcell hSw K3_2
      have K3_3' := keepcell hSw K3_3
      have K3_4' := keepcell hSw K3_4
      have K3_5' := keepcell hSw K3_5
      have K3_6' := keepcell hSw K3_6
      have K3_7' := keepcell hSw K3_7
      have K3_8' := keepcell hSw K3_8
      have K3_9' := keepcell hSw K3_9
      go_simp
      try (with_reducible rfl)
    try simp only [Act.put, List.setIfInBounds_toArray, List.set_cons_zero, List.set_cons_succ]
    refine wpM_take (i := 8) (oi := ⟨some 24, _, _, _, _, _⟩) (v := ?_) rfl (by decide +kernel) (by decide +kernel) (by decide +kernel) (fun _ _ _ h => h) (Or.inl ⟨by rfl, ?_⟩) hb ?_
    case refine_2 =>
      intro w' hSw
      have K3_0' := keepcell hSw K3_0
      have K3_1' := keepcell hSw K3_1
      have K3_2' := keepcell hSw K3_2
      have K3_3' := keepcell hSw K3_3
      have K3_4' := keepcell hSw K3_4
      have K3_5' := keepcell hSw K3_5
      have K3_6' := keepcell hSw K3_6
      have K3_7' := keepcell hSw K3_7
      have K3_8' := keepcell hSw K3_8
      have K3_9' := keepcell hSw K3_9
      go_simp
      try (with_reducible rfl)
    try simp only [Act.put, List.setIfInBounds_toArray, List.set_cons_zero, List.set_cons_succ]
    refine wpM_step (i := 4) (o := ⟨some 20, _, _, _, _, _⟩) rfl (by decide +kernel) (by decide) (fun K hK => ?_)
    go_simp
    refine (CV.out y0 (HB3.out.trans (hb.mono HB3.out.size))).mono ?_
    rintro e y1 ⟨rfl, h1y⟩
    have b1y : Below w2.heap.size w2 y1 := hb.trans (h1y.mono hb.size)
    clear h1y
    refine hK.out _ _ b1y ?_
    clear hK K
    try simp only [Act.put, List.setIfInBounds_toArray, List.set_cons_zero, List.set_cons_succ]
    refine wpM_step (i := 9) (o := ⟨some 25, _, _, _, _, _⟩) rfl (by decide +kernel) (by decide) (fun K hK => ?_)
    go_simp
    refine (CR.out y1 (HB3.out.trans (b1y.mono HB3.out.size))).mono ?_
    rintro e y2 ⟨rfl, h2y⟩
    have b2y : Below w2.heap.size w2 y2 := b1y.trans (h2y.mono b1y.size)
    clear h2y
    refine hK.out _ _ b2y ?_
    clear hK K
    try simp only [Act.put, List.setIfInBounds_toArray, List.set_cons_zero, List.set_cons_succ]
    refine wpM_take (i := 10) (oi := ⟨some 26, _, _, _, _, _⟩) (v := ?_) rfl (by decide +kernel) (by decide +kernel) (by decide +kernel) (fun _ _ _ h => h) (Or.inl ⟨by rfl, ?_⟩) b2y ?_
    case refine_2 =>
      intro w' hSw
      have K3_0' := keepcell hSw K3_0
      have K3_1' := keepcell hSw K3_1
      have K3_2' := keepcell hSw K3_2
      have K3_3' := keepcell hSw K3_3
      have K3_4' := keepcell hSw K3_4
      have K3_5' := keepcell hSw K3_5
      have K3_6' := keepcell hSw K3_6
      have K3_7' := keepcell hSw K3_7
      have K3_8' := keepcell hSw K3_8
      have K3_9' := keepcell hSw K3_9
      go_simp
      try (with_reducible rfl)
    try simp only [Act.put, List.setIfInBounds_toArray, List.set_cons_zero, List.set_cons_succ]
    try simp only [beq_self_eq_true, Bool.and_self]
    refine wpM_done (by decide +kernel) ?_
    simp only [List.drop_succ_cons, List.drop_zero]
    go_wp2
    go_ret
    exact ⟨rfl, HB3.out.trans (b2y.mono HB3.out.size)⟩
  go_wp2_with fail
  refine (C2.out _ HB3.out).mono ?_
  rintro e w3 ⟨rfl, hb⟩
  have HB4 := Lib.hid (HB3.out.trans (hb.mono HB3.out.size))
  have K4 := Lib.hid (K3.out.below hb)
  clear hb
  clear K3_0 K3_1 K3_2 K3_3 K3_4 K3_5 K3_6 K3_7 K3_8 K3_9 K3_l
  have K4_0 : w3.cell? ⟨w.heap.size, 0, none⟩ = some (.int .i64 x.op) := K4.out.cell 0
  have K4_1 : w3.cell? ⟨w.heap.size, 1, none⟩ = some (.string x.tb) := K4.out.cell 1
  have K4_2 : w3.cell? ⟨w.heap.size, 2, none⟩ = some (.string x.nm) := K4.out.cell 2
  have K4_3 : w3.cell? ⟨w.heap.size, 3, none⟩ = some (.int .i64 x.ix) := K4.out.cell 3
  have K4_4 : w3.cell? ⟨w.heap.size, 4, none⟩ = some (.int .i64 x.v.k) := K4.out.cell 4
  have K4_5 : w3.cell? ⟨w.heap.size, 5, none⟩ = some (.int .i64 x.v.n) := K4.out.cell 5
  have K4_6 : w3.cell? ⟨w.heap.size, 6, none⟩ = some (.string x.v.s) := K4.out.cell 6
  have K4_7 : w3.cell? ⟨w.heap.size, 7, none⟩ = some (.slice x.A x.args.length x.c) := K4.out.cell 7
  have K4_8 : w3.cell? ⟨w.heap.size, 8, none⟩ = some (.slice A0 n0 c0) := K4.out.cell 8
  have K4_9 : w3.cell? ⟨w.heap.size, 9, none⟩ = some (.slice A n c) := K4.out.cell 9
  have K4_l : w.heap.size < w3.heap.size := K4.out.lt
  cases f2
  case true =>
    have CV := Lib.hid (CV0.out (HV.out (by simp)).1)
    have CR := Lib.hid (CR0.out (HV.out (by simp)).2)
    clear CV0 CR0 HV
    go_upto_region 3 with fail
    have hb : Below w3.heap.size w3 w3.drew := below_drew (Below.refl _ _)
    refine wp_region_mix 11 (fun w' => Below w3.heap.size w3 w') (by kernel_rfl) (by decide) ?_
    generalize w3.drew = y0 at hb ⊢
    refine wpM_take (i := 0) (oi := ⟨some 16, _, _, _, _, _⟩) (v := ?_) rfl (by decide +kernel) (by decide +kernel) (by decide +kernel) (fun _ _ _ h => h) (Or.inl ⟨by rfl, ?_⟩) hb ?_
    case refine_2 =>
      intro w' hSw
      have K4_0' := keepcell hSw K4_0
      have K4_1' := keepcell hSw K4_1
      have K4_2' := keepcell hSw K4_2
      have K4_3' := keepcell hSw K4_3
      have K4_4' := keepcell hSw K4_4
      have K4_5' := keepcell hSw K4_5
      have K4_6' := keepcell hSw K4_6
      have K4_7' := keepcell hSw K4_7
      have K4_8' := keepcell hSw K4_8
      have K4_9' := keepcell hSw K4_9
      go_simp
      try (with_reducible rfl)
    try simp only [Act.put, List.setIfInBounds_toArray, List.set_cons_zero, List.set_cons_succ]
    refine wpM_take (i := 1) (oi := ⟨some 17, _, _, _, _, _⟩) (v := ?_) rfl (by decide +kernel) (by decide +kernel) (by decide +kernel) (fun _ _ _ h => h) (Or.inl ⟨by rfl, ?_⟩) hb ?_
    case refine_2 =>
      intro w' hSw
      have K4_0' := keepcell hSw K4_0
      have K4_1' := keepcell hSw K4_1
      have K4_2' := keepcell hSw K4_2
      have K4_3' := keepcell hSw K4_3
      have K4_4' := keepcell hSw K4_4
      have K4_5' := keepcell hSw K4_5
      have K4_6' := keepcell hSw K4_6
      have K4_7' := keepcell hSw K4_7
      have K4_8' := keepcell hSw K4_8
      have K4_9' := keepcell hSw K4_9
      go_simp
      try (with_reducible rfl)
    try simp only [Act.put, List.setIfInBounds_toArray, List.set_cons_zero, List.set_cons_succ]
    refine wpM_take (i := 2) (oi := ⟨some 18, _, _, _, _, _⟩) (v := ?_) rfl (by decide +kernel) (by decide +kernel) (by decide +kernel) (fun _ _ _ h => h) (Or.inl ⟨by rfl, ?_⟩) hb ?_
    case refine_2 =>
      intro w' hSw
      have K4_0' := keepcell hSw K4_0
      have K4_1' := keepcell hSw K4_1
      have K4_2' := keepcell hSw K4_2
      have K4_3' := keepcell hSw K4_3
      have K4_4' := keepcell hSw K4_4
      have K4_5' := keepcell hSw K4_5
      have K4_6' := keepcell hSw K4_6
      have K4_7' := keepcell hSw K4_7
      have K4_8' := keepcell hSw K4_8
      have K4_9' := keepcell hSw K4_9
      go_simp
      try (with_reducible rfl)
    try simp only [Act.put, List.setIfInBounds_toArray, List.set_cons_zero, List.set_cons_succ]
    refine wpM_take (i := 3) (oi := ⟨some 19, _, _, _, _, _⟩) (v := ?_) rfl (by decide +kernel) (by decide +kernel) (by decide +kernel) (fun _ _ _ h => h) (Or.inl ⟨by rfl, ?_⟩) hb ?_
    case refine_2 =>
      intro w' hSw
      have K4_0' := keepcell hSw K4_0
      have K4_1' := keepcell hSw K4_1
      have K4_2' := keepcell hSw K4_2
      have K4_3' := keepcell hSw K4_3
      have K4_4' := keepcell hSw K4_4
      have K4_5' := keepcell hSw K4_5
      have K4_6' := keepcell hSw K4_6
      have K4_7' := keepcell hSw K4_7
      have K4_8' := keepcell hSw K4_8
      have K4_9' := keepcell hSw K4_9
      go_simp
      try (with_reducible rfl)
    try simp only [Act.put, List.setIfInBounds_toArray, List.set_cons_zero, List.set_cons_succ]
    refine wpM_take (i := 5) (oi := ⟨some 21, _, _, _, _, _⟩) (v := ?_) rfl (by decide +kernel) (by decide +kernel) (by decide +kernel) (fun _ _ _ h => h) (Or.inl ⟨by rfl, ?_⟩) hb ?_
    case refine_2 =>
      intro w' hSw
      have K4_0' := keepcell hSw K4_0
      have K4_1' := keepcell hSw K4_1
      have K4_2' := keepcell hSw K4_2
      have K4_3' := keepcell hSw K4_3
      have K4_4' := keepcell hSw K4_4
      have K4_5' := keepcell hSw K4_5
      have K4_6' := keepcell hSw K4_6
      have K4_7' := keepcell hSw K4_7
      have K4_8' := keepcell hSw K4_8
      have K4_9' := keepcell hSw K4_9
      go_simp
      try (with_reducible rfl)
    try simp only [Act.put, List.setIfInBounds_toArray, List.set_cons_zero, List.set_cons_succ]
    refine wpM_take (i := 6) (oi := ⟨some 22, _, _, _, _, _⟩) (v := ?_) rfl (by decide +kernel) (by decide +kernel) (by decide +kernel) (fun _ _ _ h => h) (Or.inl ⟨by rfl, ?_⟩) hb ?_
    case refine_2 =>
      intro w' hSw
      have K4_0' := keepcell hSw K4_0
      have K4_1' := keepcell hSw K4_1
      have K4_2' := keepcell hSw K4_2
      have K4_3' := keepcell hSw K4_3
      have K4_4' := keepcell hSw K4_4
      have K4_5' := keepcell hSw K4_5
      have K4_6' := keepcell hSw K4_6
      have K4_7' := keepcell hSw K4_7
      have K4_8' := keepcell hSw K4_8
      have K4_9' := keepcell hSw K4_9
      go_simp
      try (with_reducible rfl)
    try simp only [Act.put, List.setIfInBounds_toArray, List.set_cons_zero, List.set_cons_succ]
    refine wpM_take (i := 7) (oi := ⟨some 23, _, _, _, _, _⟩) (v := ?_) rfl (by decide +kernel) (by decide +kernel) (by decide +kernel) (fun _ _ _ h => h) (Or.inl ⟨by rfl, ?_⟩) hb ?_
    case refine_2 =>
      intro w' hSw
      have K4_0' := keepcell hSw K4_0
      have K4_1' := keepcell hSw K4_1
      have K4_2' := keepcell hSw K4_2
      have K4_3' := keepcell hSw K4_3
      have K4_4' := keepcell hSw K4_4
      have K4_5' := keepcell hSw K4_5
      have K4_6' := keepcell hSw K4_6
      have K4_7' := keepcell hSw K4_7
      have K4_8' := keepcell hSw K4_8
      have K4_9' := keepcell hSw K4_9
      go_simp
      try (with_reducible rfl)
    try simp only [Act.put, List.setIfInBounds_toArray, List.set_cons_zero, List.set_cons_succ]
    refine wpM_take (i := 8) (oi := ⟨some 24, _, _, _, _, _⟩) (v := ?_) rfl (by decide +kernel) (by decide +kernel) (by decide +kernel) (fun _ _ _ h => h) (Or.inl ⟨by rfl, ?_⟩) hb ?_
    case refine_2 =>
      intro w' hSw
      have K4_0' := keepcell hSw K4_0
      have K4_1' := keepcell hSw K4_1
      have K4_2' := keepcell hSw K4_2
      have K4_3' := keepcell hSw K4_3
      have K4_4' := keepcell hSw K4_4
      have K4_5' := keepcell hSw K4_5
      have K4_6' := keepcell hSw K4_6
      have K4_7' := keepcell hSw K4_7
      have K4_8' := keepcell hSw K4_8
      have K4_9' := keepcell hSw K4_9
      go_simp
      try (with_reducible rfl)
    try simp only [Act.put, List.setIfInBounds_toArray, List.set_cons_zero, List.set_cons_succ]
    refine wpM_step (i := 4) (o := ⟨some 20, _, _, _, _, _⟩) rfl (by decide +kernel) (by decide) (fun K hK => ?_)
    go_simp
    refine (CV.out y0 (HB4.out.trans (hb.mono HB4.out.size))).mono ?_
    rintro e y1 ⟨rfl, h1y⟩
    have b1y : Below w3.heap.size w3 y1 := hb.trans (h1y.mono hb.size)
    clear h1y
    refine hK.out _ _ b1y ?_
    clear hK K
    try simp only [Act.put, List.setIfInBounds_toArray, List.set_cons_zero, List.set_cons_succ]
    refine wpM_step (i := 9) (o := ⟨some 25, _, _, _, _, _⟩) rfl (by decide +kernel) (by decide) (fun K hK => ?_)
    go_simp
    refine (CR.out y1 (HB4.out.trans (b1y.mono HB4.out.size))).mono ?_
    rintro e y2 ⟨rfl, h2y⟩
    have b2y : Below w3.heap.size w3 y2 := b1y.trans (h2y.mono b1y.size)
    clear h2y
    refine hK.out _ _ b2y ?_
    clear hK K
    try simp only [Act.put, List.setIfInBounds_toArray, List.set_cons_zero, List.set_cons_succ]
    refine wpM_take (i := 10) (oi := ⟨some 26, _, _, _, _, _⟩) (v := ?_) rfl (by decide +kernel) (by decide +kernel) (by decide +kernel) (fun _ _ _ h => h) (Or.inl ⟨by rfl, ?_⟩) b2y ?_
    case refine_2 =>
      intro w' hSw
      have K4_0' := keepcell hSw K4_0
      have K4_1' := keepcell hSw K4_1
      have K4_2' := keepcell hSw K4_2
      have K4_3' := keepcell hSw K4_3
      have K4_4' := keepcell hSw K4_4
      have K4_5' := keepcell hSw K4_5
      have K4_6' := keepcell hSw K4_6
      have K4_7' := keepcell hSw K4_7
      have K4_8' := keepcell hSw K4_8
      have K4_9' := keepcell hSw K4_9
      go_simp
      try (with_reducible rfl)
    try simp only [Act.put, List.setIfInBounds_toArray, List.set_cons_zero, List.set_cons_succ]
    try simp only [beq_self_eq_true, Bool.and_self]
    refine wpM_done (by decide +kernel) ?_
    simp only [List.drop_succ_cons, List.drop_zero]
    go_wp2
    go_ret
    exact ⟨rfl, HB4.out.trans (b2y.mono HB4.out.size)⟩
  go_wp2_with fail
  refine (awake_any _).mono ?_
  rintro e w4 ⟨rfl, hb⟩
  have HB5 := Lib.hid (HB4.out.trans (hb.mono HB4.out.size))
  have K5 := Lib.hid (K4.out.below hb)
  clear hb
  clear K4_0 K4_1 K4_2 K4_3 K4_4 K4_5 K4_6 K4_7 K4_8 K4_9 K4_l
  have K5_0 : w4.cell? ⟨w.heap.size, 0, none⟩ = some (.int .i64 x.op) := K5.out.cell 0
  have K5_1 : w4.cell? ⟨w.heap.size, 1, none⟩ = some (.string x.tb) := K5.out.cell 1
  have K5_2 : w4.cell? ⟨w.heap.size, 2, none⟩ = some (.string x.nm) := K5.out.cell 2
  have K5_3 : w4.cell? ⟨w.heap.size, 3, none⟩ = some (.int .i64 x.ix) := K5.out.cell 3
  have K5_4 : w4.cell? ⟨w.heap.size, 4, none⟩ = some (.int .i64 x.v.k) := K5.out.cell 4
  have K5_5 : w4.cell? ⟨w.heap.size, 5, none⟩ = some (.int .i64 x.v.n) := K5.out.cell 5
  have K5_6 : w4.cell? ⟨w.heap.size, 6, none⟩ = some (.string x.v.s) := K5.out.cell 6
  have K5_7 : w4.cell? ⟨w.heap.size, 7, none⟩ = some (.slice x.A x.args.length x.c) := K5.out.cell 7
  have K5_8 : w4.cell? ⟨w.heap.size, 8, none⟩ = some (.slice A0 n0 c0) := K5.out.cell 8
  have K5_9 : w4.cell? ⟨w.heap.size, 9, none⟩ = some (.slice A n c) := K5.out.cell 9
  have K5_l : w.heap.size < w4.heap.size := K5.out.lt
  go_wp2
  go_ret
  exact ⟨rfl, HB5.out⟩
end Go.Proofs.Ytfhbffgnpedaeaa
