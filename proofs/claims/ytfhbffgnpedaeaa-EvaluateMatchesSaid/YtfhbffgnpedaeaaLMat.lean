/- Law EvaluateMatches: for every input the call returns true, and its arguments read afterwards as before. -/
import Derived.Test.YtfhbffgnpedaeaaEct
import Derived.Test.YtfhbffgnpedaeaaErm
import Derived.Test.YtfhbffgnpedaeaaEaw
import Derived.Test.YtfhbffgnpedaeaaEcs
import Derived.Test.YtfhbffgnpedaeaaEop
import Derived.Test.YtfhbffgnpedaeaaMix
namespace Go.Proofs.Ytfhbffgnpedaeaa
open Go.ChangeShapes Go.WideShapes Go.ChangeAt Go.RowKit Go.ChangeMaps

set_option maxRecDepth 100000 in
set_option maxHeartbeats 4000000 in
theorem evaluateMatches_walk (L : List Va) (R : List V3) (x : Ex) (A0 A : Option Addr) (n0 c0 n c : Nat) (w : World) (h : ExAt w x) (hL : Vas w A0 n0 L) (hR : Vls w A n R) (hn : n ≤ 9223372036854775807) (hok : ∀ v ∈ R, v.ok) : Calls Try.prog 5 #[caseAgg x A0 A n0 c0 n c] w fun e w' => e = .returned (.bool true) ∧ Below w.heap.size w w' := by
  have C1 := Lib.hid (fun W (hW : Below w.heap.size w W) => fits_any L R x A0 A n0 c0 n c 3 W (h.keep hW) (hL.below hW) (hR.below hW) hn hok)
  obtain ⟨f1, hf1⟩ : ∃ u, (fitM L 3 x && rwM L R) = u := ⟨_, rfl⟩
  simp only [hf1] at C1
  have HV0 : f1 = true → ExSm x ∧ COk R x := by
    intro g
    rw [g, Bool.and_eq_true] at hf1
    exact ⟨fit_sm L 3 x hf1.1 (by decide), fit_cok L R x hf1.1 hf1.2⟩
  have HV := Lib.hid HV0
  have CV0 := Lib.hid (fun (hs : x.op = 0 ∨ ExSm x) W (hW : Below w.heap.size w W) => hs.elim (fun h0 => Matches_none R x W A n c (h.keep hW) h0 (hR.below hW) hn hok) (fun hs => Matches_any R x W A n c (h.keep hW) hs (hR.below hW) hn hok))
  have CR0 := Lib.hid (fun (hs : x.op ≠ 0 → COk R x) W (hW : Below w.heap.size w W) => RMatches_any R x W A n c (h.keep hW) hs (hR.below hW) hn hok)
  obtain ⟨ev, hev⟩ : ∃ v, (decide (x.op = 0) || decide (condM R x = 1)) = v := ⟨_, rfl⟩
  simp only [hev] at CV0 CR0
  clear hf1 HV0 hev h hL hR hok
  unfold caseAgg at *
  unfold Ex.agg at CV0 CR0
  obtain ⟨W0, hW0⟩ : ∃ W, W = w.alloc (.cells #[.int .i64 x.op, .string x.tb, .string x.nm, .int .i64 x.ix, .int .i64 x.v.k, .int .i64 x.v.n, .string x.v.s, .slice x.A x.args.length x.c, .slice A0 n0 c0, .slice A n c] 31) := ⟨_, rfl⟩
  have HB1 := Lib.hid (show Below w.heap.size w W0 by rw [hW0]; exact (Below.refl _ w).alloc (Nat.le_refl _) _)
  have K1 := Lib.hid (show Blk W0 w.heap.size 31 #[.int .i64 x.op, .string x.tb, .string x.nm, .int .i64 x.ix, .int .i64 x.v.k, .int .i64 x.v.n, .string x.v.s, .slice x.A x.args.length x.c, .slice A0 n0 c0, .slice A n c] by rw [hW0]; exact Blk.new _ _ _)
  obtain ⟨op, hop⟩ : ∃ op, x.op = op := ⟨_, rfl⟩
  rw [hop] at CV0 CR0 hW0 K1 C1 ⊢
  clear hop
  have K1_0 : W0.cell? ⟨w.heap.size, 0, none⟩ = some (.int .i64 op) := K1.out.cell 0
  have K1_1 : W0.cell? ⟨w.heap.size, 1, none⟩ = some (.string x.tb) := K1.out.cell 1
  have K1_2 : W0.cell? ⟨w.heap.size, 2, none⟩ = some (.string x.nm) := K1.out.cell 2
  have K1_3 : W0.cell? ⟨w.heap.size, 3, none⟩ = some (.int .i64 x.ix) := K1.out.cell 3
  have K1_4 : W0.cell? ⟨w.heap.size, 4, none⟩ = some (.int .i64 x.v.k) := K1.out.cell 4
  have K1_5 : W0.cell? ⟨w.heap.size, 5, none⟩ = some (.int .i64 x.v.n) := K1.out.cell 5
  have K1_6 : W0.cell? ⟨w.heap.size, 6, none⟩ = some (.string x.v.s) := K1.out.cell 6
  have K1_7 : W0.cell? ⟨w.heap.size, 7, none⟩ = some (.slice x.A x.args.length x.c) := K1.out.cell 7
  have K1_8 : W0.cell? ⟨w.heap.size, 8, none⟩ = some (.slice A0 n0 c0) := K1.out.cell 8
  have K1_9 : W0.cell? ⟨w.heap.size, 9, none⟩ = some (.slice A n c) := K1.out.cell 9
  have K1_l : w.heap.size < W0.heap.size := K1.out.lt
  go_enter Try.func5, Try.ntmps5
  go_upto_region 1 with fail
  rw [← hW0]
  clear hW0
  go_wp2_with fail
  refine (awake_any _).mono ?_
  rintro e w1 ⟨rfl, hb⟩
  have HB2 := Lib.hid (HB1.out.trans (hb.mono HB1.out.size))
  have K2 := Lib.hid (K1.out.below hb)
  clear hb
  clear K1_0 K1_1 K1_2 K1_3 K1_4 K1_5 K1_6 K1_7 K1_8 K1_9 K1_l
  have K2_0 : w1.cell? ⟨w.heap.size, 0, none⟩ = some (.int .i64 op) := K2.out.cell 0
  have K2_1 : w1.cell? ⟨w.heap.size, 1, none⟩ = some (.string x.tb) := K2.out.cell 1
  have K2_2 : w1.cell? ⟨w.heap.size, 2, none⟩ = some (.string x.nm) := K2.out.cell 2
  have K2_3 : w1.cell? ⟨w.heap.size, 3, none⟩ = some (.int .i64 x.ix) := K2.out.cell 3
  have K2_4 : w1.cell? ⟨w.heap.size, 4, none⟩ = some (.int .i64 x.v.k) := K2.out.cell 4
  have K2_5 : w1.cell? ⟨w.heap.size, 5, none⟩ = some (.int .i64 x.v.n) := K2.out.cell 5
  have K2_6 : w1.cell? ⟨w.heap.size, 6, none⟩ = some (.string x.v.s) := K2.out.cell 6
  have K2_7 : w1.cell? ⟨w.heap.size, 7, none⟩ = some (.slice x.A x.args.length x.c) := K2.out.cell 7
  have K2_8 : w1.cell? ⟨w.heap.size, 8, none⟩ = some (.slice A0 n0 c0) := K2.out.cell 8
  have K2_9 : w1.cell? ⟨w.heap.size, 9, none⟩ = some (.slice A n c) := K2.out.cell 9
  have K2_l : w.heap.size < w1.heap.size := K2.out.lt
  by_cases h0 : op = 0
  · subst h0
    have CV := Lib.hid (CV0.out (.inl rfl))
    have CR := Lib.hid (CR0.out (fun h => absurd rfl h))
    clear CV0 CR0 HV C1
    go_upto_region 3 with fail
    have hb : Below w1.heap.size w1 w1.drew := below_drew (Below.refl _ _)
    refine wp_region_mix 11 (fun w' => Below w1.heap.size w1 w') (by kernel_rfl) (by decide) ?_
    generalize w1.drew = y0 at hb ⊢
    refine wpM_take (i := 0) (oi := ⟨some 17, _, _, _, _, _⟩) (v := ?_) rfl (by decide +kernel) (by decide +kernel) (by decide +kernel) (fun _ _ _ h => h) (Or.inl ⟨by rfl, ?_⟩) hb ?_
    case refine_2 =>
      intro w' hSw
      have K2_0' := keepcell hSw K2_0
      have K2_1' := keepcell hSw K2_1
      have K2_2' := keepcell hSw K2_2
      have K2_3' := keepcell hSw K2_3
      have K2_4' := keepcell hSw K2_4
      have K2_5' := keepcell hSw K2_5
      have K2_6' := keepcell hSw K2_6
      have K2_7' := keepcell hSw K2_7
      have K2_8' := keepcell hSw K2_8
      have K2_9' := keepcell hSw K2_9
      go_simp
      try (with_reducible rfl)
    try simp only [Act.put, List.setIfInBounds_toArray, List.set_cons_zero, List.set_cons_succ]
    refine wpM_take (i := 1) (oi := ⟨some 18, _, _, _, _, _⟩) (v := ?_) rfl (by decide +kernel) (by decide +kernel) (by decide +kernel) (fun _ _ _ h => h) (Or.inl ⟨by rfl, ?_⟩) hb ?_
    case refine_2 =>
      intro w' hSw
      have K2_0' := keepcell hSw K2_0
      have K2_1' := keepcell hSw K2_1
      have K2_2' := keepcell hSw K2_2
      have K2_3' := keepcell hSw K2_3
      have K2_4' := keepcell hSw K2_4
      have K2_5' := keepcell hSw K2_5
      have K2_6' := keepcell hSw K2_6
      have K2_7' := keepcell hSw K2_7
      have K2_8' := keepcell hSw K2_8
      have K2_9' := keepcell hSw K2_9
      go_simp
      try (with_reducible rfl)
    try simp only [Act.put, List.setIfInBounds_toArray, List.set_cons_zero, List.set_cons_succ]
    refine wpM_take (i := 2) (oi := ⟨some 19, _, _, _, _, _⟩) (v := ?_) rfl (by decide +kernel) (by decide +kernel) (by decide +kernel) (fun _ _ _ h => h) (Or.inl ⟨by rfl, ?_⟩) hb ?_
    case refine_2 =>
      intro w' hSw
      have K2_0' := keepcell hSw K2_0
      have K2_1' := keepcell hSw K2_1
      have K2_2' := keepcell hSw K2_2
      have K2_3' := keepcell hSw K2_3
      have K2_4' := keepcell hSw K2_4
      have K2_5' := keepcell hSw K2_5
      have K2_6' := keepcell hSw K2_6
      have K2_7' := keepcell hSw K2_7
      have K2_8' := keepcell hSw K2_8
      have K2_9' := keepcell hSw K2_9
      go_simp
      try (with_reducible rfl)
    try simp only [Act.put, List.setIfInBounds_toArray, List.set_cons_zero, List.set_cons_succ]
    refine wpM_take (i := 3) (oi := ⟨some 20, _, _, _, _, _⟩) (v := ?_) rfl (by decide +kernel) (by decide +kernel) (by decide +kernel) (fun _ _ _ h => h) (Or.inl ⟨by rfl, ?_⟩) hb ?_
    case refine_2 =>
      intro w' hSw
      have K2_0' := keepcell hSw K2_0
      have K2_1' := keepcell hSw K2_1
      have K2_2' := keepcell hSw K2_2
      have K2_3' := keepcell hSw K2_3
      have K2_4' := keepcell hSw K2_4
      have K2_5' := keepcell hSw K2_5
      have K2_6' := keepcell hSw K2_6
      have K2_7' := keepcell hSw K2_7
      have K2_8' := keepcell hSw K2_8
      have K2_9' := keepcell hSw K2_9
      go_simp
      try (with_reducible rfl)
    try simp only [Act.put, List.setIfInBounds_toArray, List.set_cons_zero, List.set_cons_succ]
    refine wpM_take (i := 5) (oi := ⟨some 22, _, _, _, _, _⟩) (v := ?_) rfl (by decide +kernel) (by decide +kernel) (by decide +kernel) (fun _ _ _ h => h) (Or.inl ⟨by rfl, ?_⟩) hb ?_
    case refine_2 =>
      intro w' hSw
      have K2_0' := keepcell hSw K2_0
      have K2_1' := keepcell hSw K2_1
      have K2_2' := keepcell hSw K2_2
      have K2_3' := keepcell hSw K2_3
      have K2_4' := keepcell hSw K2_4
      have K2_5' := keepcell hSw K2_5
      have K2_6' := keepcell hSw K2_6
      have K2_7' := keepcell hSw K2_7
      have K2_8' := keepcell hSw K2_8
      have K2_9' := keepcell hSw K2_9
      go_simp
      try (with_reducible rfl)
    try simp only [Act.put, List.setIfInBounds_toArray, List.set_cons_zero, List.set_cons_succ]
    refine wpM_take (i := 6) (oi := ⟨some 23, _, _, _, _, _⟩) (v := ?_) rfl (by decide +kernel) (by decide +kernel) (by decide +kernel) (fun _ _ _ h => h) (Or.inl ⟨by rfl, ?_⟩) hb ?_
    case refine_2 =>
      intro w' hSw
      have K2_0' := keepcell hSw K2_0
      have K2_1' := keepcell hSw K2_1
      have K2_2' := keepcell hSw K2_2
      have K2_3' := keepcell hSw K2_3
      have K2_4' := keepcell hSw K2_4
      have K2_5' := keepcell hSw K2_5
      have K2_6' := keepcell hSw K2_6
      have K2_7' := keepcell hSw K2_7
      have K2_8' := keepcell hSw K2_8
      have K2_9' := keepcell hSw K2_9
      go_simp
      try (with_reducible rfl)
    try simp only [Act.put, List.setIfInBounds_toArray, List.set_cons_zero, List.set_cons_succ]
    refine wpM_take (i := 7) (oi := ⟨some 24, _, _, _, _, _⟩) (v := ?_) rfl (by decide +kernel) (by decide +kernel) (by decide +kernel) (fun _ _ _ h => h) (Or.inl ⟨by rfl, ?_⟩) hb ?_
    case refine_2 =>
      intro w' hSw
      have K2_0' := keepcell hSw K2_0
      have K2_1' := keepcell hSw K2_1
      have K2_2' := keepcell hSw K2_2
      have K2_3' := keepcell hSw K2_3
      have K2_4' := keepcell hSw K2_4
      have K2_5' := keepcell hSw K2_5
      have K2_6' := keepcell hSw K2_6
      have K2_7' := keepcell hSw K2_7
      have K2_8' := keepcell hSw K2_8
      have K2_9' := keepcell hSw K2_9
      go_simp
      try (with_reducible rfl)
    try simp only [Act.put, List.setIfInBounds_toArray, List.set_cons_zero, List.set_cons_succ]
    refine wpM_take (i := 8) (oi := ⟨some 25, _, _, _, _, _⟩) (v := ?_) rfl (by decide +kernel) (by decide +kernel) (by decide +kernel) (fun _ _ _ h => h) (Or.inl ⟨by rfl, ?_⟩) hb ?_
    case refine_2 =>
      intro w' hSw
      have K2_0' := keepcell hSw K2_0
      have K2_1' := keepcell hSw K2_1
      have K2_2' := keepcell hSw K2_2
      have K2_3' := keepcell hSw K2_3
      have K2_4' := keepcell hSw K2_4
      have K2_5' := keepcell hSw K2_5
      have K2_6' := keepcell hSw K2_6
      have K2_7' := keepcell hSw K2_7
      have K2_8' := keepcell hSw K2_8
      have K2_9' := keepcell hSw K2_9
      go_simp
      try (with_reducible rfl)
    try simp only [Act.put, List.setIfInBounds_toArray, List.set_cons_zero, List.set_cons_succ]
    refine wpM_step (i := 4) (o := ⟨some 21, _, _, _, _, _⟩) rfl (by decide +kernel) (by decide) (fun K hK => ?_)
    go_simp
    refine (CV.out y0 (HB2.out.trans (hb.mono HB2.out.size))).mono ?_
    rintro e y1 ⟨rfl, h1y⟩
    have b1y : Below w1.heap.size w1 y1 := hb.trans (h1y.mono hb.size)
    clear h1y
    refine hK.out _ _ b1y ?_
    clear hK K
    try simp only [Act.put, List.setIfInBounds_toArray, List.set_cons_zero, List.set_cons_succ]
    refine wpM_step (i := 9) (o := ⟨some 26, _, _, _, _, _⟩) rfl (by decide +kernel) (by decide) (fun K hK => ?_)
    go_simp
    refine (CR.out y1 (HB2.out.trans (b1y.mono HB2.out.size))).mono ?_
    rintro e y2 ⟨rfl, h2y⟩
    have b2y : Below w1.heap.size w1 y2 := b1y.trans (h2y.mono b1y.size)
    clear h2y
    refine hK.out _ _ b2y ?_
    clear hK K
    try simp only [Act.put, List.setIfInBounds_toArray, List.set_cons_zero, List.set_cons_succ]
    refine wpM_take (i := 10) (oi := ⟨some 27, _, _, _, _, _⟩) (v := ?_) rfl (by decide +kernel) (by decide +kernel) (by decide +kernel) (fun _ _ _ h => h) (Or.inl ⟨by rfl, ?_⟩) b2y ?_
    case refine_2 =>
      intro w' hSw
      have K2_0' := keepcell hSw K2_0
      have K2_1' := keepcell hSw K2_1
      have K2_2' := keepcell hSw K2_2
      have K2_3' := keepcell hSw K2_3
      have K2_4' := keepcell hSw K2_4
      have K2_5' := keepcell hSw K2_5
      have K2_6' := keepcell hSw K2_6
      have K2_7' := keepcell hSw K2_7
      have K2_8' := keepcell hSw K2_8
      have K2_9' := keepcell hSw K2_9
      go_simp
      try (with_reducible rfl)
    try simp only [Act.put, List.setIfInBounds_toArray, List.set_cons_zero, List.set_cons_succ]
    try simp only [beq_self_eq_true, Bool.and_self]
    refine wpM_done (by decide +kernel) ?_
    simp only [List.drop_succ_cons, List.drop_zero]
    go_wp2
    go_ret
    exact ⟨rfl, HB2.out.trans (b2y.mono HB2.out.size)⟩
  have e0 : (op == 0) = false := by simpa using h0
  have e0' : (op != 0) = true := by simpa using h0
  have e0d : decide (op = 0) = false := by simpa using h0
  go_wp2_with fail
  refine (C1.out _ HB2.out).mono ?_
  rintro e w2 ⟨rfl, hb⟩
  have HB3 := Lib.hid (HB2.out.trans (hb.mono HB2.out.size))
  have K3 := Lib.hid (K2.out.below hb)
  clear hb
  clear K2_0 K2_1 K2_2 K2_3 K2_4 K2_5 K2_6 K2_7 K2_8 K2_9 K2_l
  have K3_0 : w2.cell? ⟨w.heap.size, 0, none⟩ = some (.int .i64 op) := K3.out.cell 0
  have K3_1 : w2.cell? ⟨w.heap.size, 1, none⟩ = some (.string x.tb) := K3.out.cell 1
  have K3_2 : w2.cell? ⟨w.heap.size, 2, none⟩ = some (.string x.nm) := K3.out.cell 2
  have K3_3 : w2.cell? ⟨w.heap.size, 3, none⟩ = some (.int .i64 x.ix) := K3.out.cell 3
  have K3_4 : w2.cell? ⟨w.heap.size, 4, none⟩ = some (.int .i64 x.v.k) := K3.out.cell 4
  have K3_5 : w2.cell? ⟨w.heap.size, 5, none⟩ = some (.int .i64 x.v.n) := K3.out.cell 5
  have K3_6 : w2.cell? ⟨w.heap.size, 6, none⟩ = some (.string x.v.s) := K3.out.cell 6
  have K3_7 : w2.cell? ⟨w.heap.size, 7, none⟩ = some (.slice x.A x.args.length x.c) := K3.out.cell 7
  have K3_8 : w2.cell? ⟨w.heap.size, 8, none⟩ = some (.slice A0 n0 c0) := K3.out.cell 8
  have K3_9 : w2.cell? ⟨w.heap.size, 9, none⟩ = some (.slice A n c) := K3.out.cell 9
  have K3_l : w.heap.size < w2.heap.size := K3.out.lt
  cases f1
  case true =>
    have CV := Lib.hid (CV0.out (.inr (HV.out rfl).1))
    have CR := Lib.hid (CR0.out (fun _ => (HV.out rfl).2))
    clear CV0 CR0 HV h0
    go_upto_region 3 with fail
    have hb : Below w2.heap.size w2 w2.drew := below_drew (Below.refl _ _)
    refine wp_region_mix 11 (fun w' => Below w2.heap.size w2 w') (by kernel_rfl) (by decide) ?_
    generalize w2.drew = y0 at hb ⊢
    refine wpM_take (i := 0) (oi := ⟨some 17, _, _, _, _, _⟩) (v := ?_) rfl (by decide +kernel) (by decide +kernel) (by decide +kernel) (fun _ _ _ h => h) (Or.inl ⟨by rfl, ?_⟩) hb ?_
    case refine_2 =>
      intro w' hSw
      have K3_0' := keepcell hSw K3_0
      have K3_1' := keepcell hSw K3_1
      have K3_2' := keepcell hSw K3_2
      have K3_3' := keepcell hSw K3_3
      have K3_4' := keepcell hSw K3_4
      have K3_5' := keepcell hSw K3_5
      have K3_6' := keepcell hSw K3_6
      have K3_7' := keepcell hSw K3_7
      have K3_8' := keepcell hSw K3_8
      have K3_9' := keepcell hSw K3_9
      go_simp
      try (with_reducible rfl)
    try simp only [Act.put, List.setIfInBounds_toArray, List.set_cons_zero, List.set_cons_succ]
    refine wpM_take (i := 1) (oi := ⟨some 18, _, _, _, _, _⟩) (v := ?_) rfl (by decide +kernel) (by decide +kernel) (by decide +kernel) (fun _ _ _ h => h) (Or.inl ⟨by rfl, ?_⟩) hb ?_
    case refine_2 =>
      intro w' hSw
      have K3_0' := keepcell hSw K3_0
      have K3_1' := keepcell hSw K3_1
      have K3_2' := keepcell hSw K3_2
      have K3_3' := keepcell hSw K3_3
      have K3_4' := keepcell hSw K3_4
      have K3_5' := keepcell hSw K3_5
      have K3_6' := keepcell hSw K3_6
      have K3_7' := keepcell hSw K3_7
      have K3_8' := keepcell hSw K3_8
      have K3_9' := keepcell hSw K3_9
      go_simp
      try (with_reducible rfl)
    try simp only [Act.put, List.setIfInBounds_toArray, List.set_cons_zero, List.set_cons_succ]
    refine wpM_take (i := 2) (oi := ⟨some 19, _, _, _, _, _⟩) (v := ?_) rfl (by decide +kernel) (by decide +kernel) (by decide +kernel) (fun _ _ _ h => h) (Or.inl ⟨by rfl, ?_⟩) hb ?_
    case refine_2 =>
      intro w' hSw
      have K3_0' := keepcell hSw K3_0
      have K3_1' := keepcell hSw K3_1
      have K3_2' := keepcell hSw K3_2
      have K3_3' := keepcell hSw K3_3
      have K3_4' := keepcell hSw K3_4
      have K3_5' := keepcell hSw K3_5
      have K3_6' := keepcell hSw K3_6
      have K3_7' := keepcell hSw K3_7
      have K3_8' := keepcell hSw K3_8
      have K3_9' := keepcell hSw K3_9
      go_simp
      try (with_reducible rfl)
    try simp only [Act.put, List.setIfInBounds_toArray, List.set_cons_zero, List.set_cons_succ]
    refine wpM_take (i := 3) (oi := ⟨some 20, _, _, _, _, _⟩) (v := ?_) rfl (by decide +kernel) (by decide +kernel) (by decide +kernel) (fun _ _ _ h => h) (Or.inl ⟨by rfl, ?_⟩) hb ?_
    case refine_2 =>
      intro w' hSw
      have K3_0' := keepcell hSw K3_0
      have K3_1' := keepcell hSw K3_1
      have K3_2' := keepcell hSw K3_2
      have K3_3' := keepcell hSw K3_3
      have K3_4' := keepcell hSw K3_4
      have K3_5' := keepcell hSw K3_5
      have K3_6' := keepcell hSw K3_6
      have K3_7' := keepcell hSw K3_7
      have K3_8' := keepcell hSw K3_8
      have K3_9' := keepcell hSw K3_9
      go_simp
      try (with_reducible rfl)
    try simp only [Act.put, List.setIfInBounds_toArray, List.set_cons_zero, List.set_cons_succ]
    refine wpM_take (i := 5) (oi := ⟨some 22, _, _, _, _, _⟩) (v := ?_) rfl (by decide +kernel) (by decide +kernel) (by decide +kernel) (fun _ _ _ h => h) (Or.inl ⟨by rfl, ?_⟩) hb ?_
    case refine_2 =>
      intro w' hSw
      have K3_0' := keepcell hSw K3_0
      have K3_1' := keepcell hSw K3_1
      have K3_2' := keepcell hSw K3_2
      have K3_3' := keepcell hSw K3_3
      have K3_4' := keepcell hSw K3_4
      have K3_5' := keepcell hSw K3_5
      have K3_6' := keepcell hSw K3_6
      have K3_7' := keepcell hSw K3_7
      have K3_8' := keepcell hSw K3_8
      have K3_9' := keepcell hSw K3_9
      go_simp
      try (with_reducible rfl)
    try simp only [Act.put, List.setIfInBounds_toArray, List.set_cons_zero, List.set_cons_succ]
    refine wpM_take (i := 6) (oi := ⟨some 23, _, _, _, _, _⟩) (v := ?_) rfl (by decide +kernel) (by decide +kernel) (by decide +kernel) (fun _ _ _ h => h) (Or.inl ⟨by rfl, ?_⟩) hb ?_
    case refine_2 =>
      intro w' hSw
      have K3_0' := keepcell hSw K3_0
      have K3_1' := keepcell hSw K3_1
      have K3_2' := keepcell hSw K3_2
      have K3_3' := keepcell hSw K3_3
      have K3_4' := keepcell hSw K3_4
      have K3_5' := keepcell hSw K3_5
      have K3_6' := keepcell hSw K3_6
      have K3_7' := keepcell hSw K3_7
      have K3_8' := keepcell hSw K3_8
      have K3_9' := keepcell hSw K3_9
      go_simp
      try (with_reducible rfl)
    try simp only [Act.put, List.setIfInBounds_toArray, List.set_cons_zero, List.set_cons_succ]
    refine wpM_take (i := 7) (oi := ⟨some 24, _, _, _, _, _⟩) (v := ?_) rfl (by decide +kernel) (by decide +kernel) (by decide +kernel) (fun _ _ _ h => h) (Or.inl ⟨by rfl, ?_⟩) hb ?_
    case refine_2 =>
      intro w' hSw
      have K3_0' := keepcell hSw K3_0
      have K3_1' := keepcell hSw K3_1
      have K3_2' := keepcell hSw K3_2
      have K3_3' := keepcell hSw K3_3
      have K3_4' := keepcell hSw K3_4
      have K3_5' := keepcell hSw K3_5
      have K3_6' := keepcell hSw K3_6
      have K3_7' := keepcell hSw K3_7
      have K3_8' := keepcell hSw K3_8
      have K3_9' := keepcell hSw K3_9
      go_simp
      try (with_reducible rfl)
    try simp only [Act.put, List.setIfInBounds_toArray, List.set_cons_zero, List.set_cons_succ]
    refine wpM_take (i := 8) (oi := ⟨some 25, _, _, _, _, _⟩) (v := ?_) rfl (by decide +kernel) (by decide +kernel) (by decide +kernel) (fun _ _ _ h => h) (Or.inl ⟨by rfl, ?_⟩) hb ?_
    case refine_2 =>
      intro w' hSw
      have K3_0' := keepcell hSw K3_0
      have K3_1' := keepcell hSw K3_1
      have K3_2' := keepcell hSw K3_2
      have K3_3' := keepcell hSw K3_3
      have K3_4' := keepcell hSw K3_4
      have K3_5' := keepcell hSw K3_5
      have K3_6' := keepcell hSw K3_6
      have K3_7' := keepcell hSw K3_7
      have K3_8' := keepcell hSw K3_8
      have K3_9' := keepcell hSw K3_9
      go_simp
      try (with_reducible rfl)
    try simp only [Act.put, List.setIfInBounds_toArray, List.set_cons_zero, List.set_cons_succ]
    refine wpM_step (i := 4) (o := ⟨some 21, _, _, _, _, _⟩) rfl (by decide +kernel) (by decide) (fun K hK => ?_)
    go_simp
    refine (CV.out y0 (HB3.out.trans (hb.mono HB3.out.size))).mono ?_
    rintro e y1 ⟨rfl, h1y⟩
    have b1y : Below w2.heap.size w2 y1 := hb.trans (h1y.mono hb.size)
    clear h1y
    refine hK.out _ _ b1y ?_
    clear hK K
    try simp only [Act.put, List.setIfInBounds_toArray, List.set_cons_zero, List.set_cons_succ]
    refine wpM_step (i := 9) (o := ⟨some 26, _, _, _, _, _⟩) rfl (by decide +kernel) (by decide) (fun K hK => ?_)
    go_simp
    refine (CR.out y1 (HB3.out.trans (b1y.mono HB3.out.size))).mono ?_
    rintro e y2 ⟨rfl, h2y⟩
    have b2y : Below w2.heap.size w2 y2 := b1y.trans (h2y.mono b1y.size)
    clear h2y
    refine hK.out _ _ b2y ?_
    clear hK K
    try simp only [Act.put, List.setIfInBounds_toArray, List.set_cons_zero, List.set_cons_succ]
    refine wpM_take (i := 10) (oi := ⟨some 27, _, _, _, _, _⟩) (v := ?_) rfl (by decide +kernel) (by decide +kernel) (by decide +kernel) (fun _ _ _ h => h) (Or.inl ⟨by rfl, ?_⟩) b2y ?_
    case refine_2 =>
      intro w' hSw
      have K3_0' := keepcell hSw K3_0
      have K3_1' := keepcell hSw K3_1
      have K3_2' := keepcell hSw K3_2
      have K3_3' := keepcell hSw K3_3
      have K3_4' := keepcell hSw K3_4
      have K3_5' := keepcell hSw K3_5
      have K3_6' := keepcell hSw K3_6
      have K3_7' := keepcell hSw K3_7
      have K3_8' := keepcell hSw K3_8
      have K3_9' := keepcell hSw K3_9
      go_simp
      try (with_reducible rfl)
    try simp only [Act.put, List.setIfInBounds_toArray, List.set_cons_zero, List.set_cons_succ]
    try simp only [beq_self_eq_true, Bool.and_self]
    refine wpM_done (by decide +kernel) ?_
    simp only [List.drop_succ_cons, List.drop_zero]
    go_wp2
    go_ret
    exact ⟨rfl, HB3.out.trans (b2y.mono HB3.out.size)⟩
  go_wp2_with fail
  refine (awake_any _).mono ?_
  rintro e w4 ⟨rfl, hb⟩
  have HB4 := Lib.hid (HB3.out.trans (hb.mono HB3.out.size))
  have K4 := Lib.hid (K3.out.below hb)
  clear hb
  clear K3_0 K3_1 K3_2 K3_3 K3_4 K3_5 K3_6 K3_7 K3_8 K3_9 K3_l
  have K4_0 : w4.cell? ⟨w.heap.size, 0, none⟩ = some (.int .i64 op) := K4.out.cell 0
  have K4_1 : w4.cell? ⟨w.heap.size, 1, none⟩ = some (.string x.tb) := K4.out.cell 1
  have K4_2 : w4.cell? ⟨w.heap.size, 2, none⟩ = some (.string x.nm) := K4.out.cell 2
  have K4_3 : w4.cell? ⟨w.heap.size, 3, none⟩ = some (.int .i64 x.ix) := K4.out.cell 3
  have K4_4 : w4.cell? ⟨w.heap.size, 4, none⟩ = some (.int .i64 x.v.k) := K4.out.cell 4
  have K4_5 : w4.cell? ⟨w.heap.size, 5, none⟩ = some (.int .i64 x.v.n) := K4.out.cell 5
  have K4_6 : w4.cell? ⟨w.heap.size, 6, none⟩ = some (.string x.v.s) := K4.out.cell 6
  have K4_7 : w4.cell? ⟨w.heap.size, 7, none⟩ = some (.slice x.A x.args.length x.c) := K4.out.cell 7
  have K4_8 : w4.cell? ⟨w.heap.size, 8, none⟩ = some (.slice A0 n0 c0) := K4.out.cell 8
  have K4_9 : w4.cell? ⟨w.heap.size, 9, none⟩ = some (.slice A n c) := K4.out.cell 9
  have K4_l : w.heap.size < w4.heap.size := K4.out.lt
  go_wp2
  go_ret
  exact ⟨rfl, HB4.out⟩

set_option maxRecDepth 100000 in
theorem evaluateMatches_lifted (os : Os) (started : os.Started) (H : Type) (enc : TypeId × Value → H) :
    ReturnsInHanded {} Try.checked os 5 .any (Rows.evaluateMatchesSpec.pre6 enc Try.prog Try.f5 Rows.evaluateMatchesRow.domain false) (Rows.evaluateMatchesSpec.post enc Try.prog Try.f5 false true false false) := by
  refine law_lifted (C := Try.checked) (B := 4) Try.own started (by kernel_rfl) Try.func5
    (ChangeSpec.witness6 (enc := enc) (C := Try.checked) false ⟨#[], #[.agg #[.int .i64 0, .string ⟨#[]⟩, .string ⟨#[]⟩, .int .i64 0, .int .i64 0, .int .i64 0, .string ⟨#[]⟩, .slice none 0 0, .slice none 0 0, .slice none 0 0]], []⟩ 8 (by kernel_rfl) (by kernel_rfl) (by kernel_rfl) (by kernel_rfl))
    Try.laidOut (by kernel_rfl) rfl rfl rfl Try.underlying4 (fun ds h => match ds, h with | [_], _ => rfl) ?_
  intro W base args ds ps hval hA hlt hsz
  rw [Try.params5] at hA hval hsz
  obtain ⟨v0, vs0, d0, ds0, p0, q0, hargs, rfl, rfl, h0, r0⟩ := trodAll_cons hA
  obtain ⟨rfl, rfl, rfl⟩ := trodAll_nil r0
  obtain rfl : args = #[v0] := by cases args; simp_all
  obtain ⟨L0, R0, x0, A0, B0, n0, c0, m0, e0, rfl, k0, kL0, kR0, kn0, ko0, -, -⟩ := open_case (hval 0 31 v0 rfl rfl) h0 (fun x hx => hlt x (by simp [hx])) hsz (j := 0) rfl rfl
  exact evaluateMatches_walk L0 R0 x0 A0 B0 n0 c0 m0 e0 W k0 kL0 kR0 kn0 ko0

theorem evaluateMatches_over : Rows.evaluateMatchesRow.holds Try.pinned (OpenSpec.ofChange Rows.evaluateMatchesSpec) :=
  OpenClaim.holds_of_wide 5 Try.f5 rfl rfl rfl rfl rfl rfl rfl ⟨rfl, rfl, rfl, rfl, rfl⟩ rfl rfl rfl rfl rfl (by kernel_rfl) Try.func5 (by kernel_rfl)
    (of_decide_eq_true (by kernel_rfl)) (by unfold Func.isWrapper; first | (rw [if_pos (by decide +kernel)]; kernel_rfl) | (rw [if_neg (by decide +kernel)]; exact ⟨rfl, rfl⟩))
    (fun os started H enc _ => evaluateMatches_lifted os started H enc)

theorem evaluateMatches_proved : Rows.EvaluateMatchesSaid := evaluateMatches_over
end Go.Proofs.Ytfhbffgnpedaeaa
