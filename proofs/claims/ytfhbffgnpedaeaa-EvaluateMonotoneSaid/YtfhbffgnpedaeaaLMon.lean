/- Law EvaluateMonotone: for every input the call returns true, and its arguments read afterwards as before. -/
import Derived.Test.YtfhbffgnpedaeaaEmo
import Derived.Test.YtfhbffgnpedaeaaEaw
import Derived.Test.YtfhbffgnpedaeaaEcs
import Derived.Test.YtfhbffgnpedaeaaErx
import Derived.Test.YtfhbffgnpedaeaaErc
import Derived.Test.YtfhbffgnpedaeaaEop
import Derived.Test.YtfhbffgnpedaeaaMix
namespace Go.Proofs.Ytfhbffgnpedaeaa
open Go.ChangeShapes Go.WideShapes Go.ChangeAt Go.RowKit Go.ChangeMaps

theorem v3_one (R : List V3) : ∀ u ∈ R.flatMap V3.cells, u.oneCell' = true := by
  intro u hu
  obtain ⟨x, _, hx⟩ := List.mem_flatMap.1 hu
  simp only [V3.cells, List.mem_cons, List.not_mem_nil, or_false] at hx
  rcases hx with rfl | rfl | rfl <;> rfl
set_option maxRecDepth 100000 in
set_option maxHeartbeats 4000000 in
theorem evaluateMonotone_walk (L : List Va) (R : List V3) (x : Ex) (A0 A : Option Addr) (n0 c0 n c : Nat) (AS : Option Addr) (nS cS : Nat) (S : List V3) (w : World) (h : ExAt w x) (hL : Vas w A0 n0 L) (hR : Vls w A n R) (hn : n ≤ 9223372036854775807) (hok : ∀ v ∈ R, v.ok) (hS : At w AS nS 3 (S.flatMap V3.cells)) (hnS : nS ≤ 9223372036854775807) (hSin : ∀ v ∈ S, v.in) : Calls Try.prog 9 #[caseAgg x A0 A n0 c0 n c, .slice AS nS cS] w fun e w' => e = .returned (.bool true) ∧ Below w.heap.size w w' := by
  have hS : Vls w AS nS S := hS
  have hSok : ∀ v ∈ S, v.ok := fun v hv => V3.in_ok (hSin v hv)
  have C1 := Lib.hid (fun W (hW : Below w.heap.size w W) => fits_any L R x A0 A n0 c0 n c 3 W (h.keep hW) (hL.below hW) (hR.below hW) hn hok)
  have C2 := Lib.hid (fun W (hW : Below w.heap.size w W) => Nulls_any x W (h.keep hW))
  have C3 := Lib.hid (fun W (hW : Below w.heap.size w W) => Row_any L S A0 AS n0 c0 nS cS W (hL.below hW) (hS.below hW) hnS hSok)
  obtain ⟨f1, hf1⟩ : ∃ u, (fitM L 3 x && rwM L R) = u := ⟨_, rfl⟩
  obtain ⟨f2, hf2⟩ : ∃ u, nlM x = u := ⟨_, rfl⟩
  obtain ⟨f3, hf3⟩ : ∃ u, rwM L S = u := ⟨_, rfl⟩
  simp only [hf1] at C1
  simp only [hf2] at C2
  simp only [hf3] at C3
  obtain ⟨T, hT⟩ : ∃ T, T = List.zipWith (fun r s : V3 => if r.k = 0 then s else r) R S := ⟨_, rfl⟩
  have HRl := hR.len
  have HSl := hS.len
  have HV0 : f1 = true → f3 = true → ExSm x ∧ R.length = S.length ∧ R.length ≤ 12 := by
    intro g g3
    rw [g, Bool.and_eq_true] at hf1
    refine ⟨fit_sm L 3 x hf1.1 (by decide), ?_⟩
    have e1 : L.length = R.length := Classical.byContradiction fun e => by have := hf1.2; rw [rw_len L R e] at this; cases this
    have e2 : L.length = S.length := Classical.byContradiction fun e => by rw [g3, rw_len L S e] at hf3; cases hf3
    have e3 := hf1.1
    unfold fitM at e3
    simp only [Bool.and_eq_true, decide_eq_true_eq] at e3
    omega
  have HV := Lib.hid HV0
  have HTl := Lib.hid (show R.length = S.length → T.length = R.length from fun e => by rw [hT]; exact upd_len R S e)
  have HTg := Lib.hid (show ∀ (i : Nat) (r s : V3), R[i]? = some r → S[i]? = some s → T[i]? = some (if r.k = 0 then s else r) from fun i r s h1 h2 => by rw [hT, List.getElem?_zipWith, h1, h2])
  have HTok := Lib.hid (show ∀ v ∈ T, v.ok from fun v hv => by
    rw [hT] at hv
    obtain ⟨i, hi, he⟩ := List.mem_iff_getElem.1 hv
    rw [List.getElem_zipWith] at he
    rw [← he]
    split
    · exact hSok _ (List.getElem_mem _)
    · exact hok _ (List.getElem_mem _))
  have CC0 := Lib.hid (fun (hs : ExSm x) W (hW : Below w.heap.size w W) => Condition_any R x W A n c (h.keep hW) hs (hR.below hW) hn hok)
  have CT0 := Lib.hid (fun (hs : ExSm x) W (hW : Below w.heap.size w W) g' c' (hT : Vls W (some ⟨g', 0, none⟩) n T) => Condition_any T x W (some ⟨g', 0, none⟩) n c' (h.keep hW) hs hT hn HTok.out)
  have HF := Lib.hid (show R.length = S.length → f2 = false → condM R x ≠ 2 → condM T x = condM R x from fun e g => by
    rw [← hf2] at g
    refine cond_fills ⟨(HTl.out e).symm, fun i r hr hk => ?_⟩ x g
    have hi := (List.getElem?_eq_some_iff.1 hr).1
    rw [HTg.out i r S[i] hr (List.getElem?_eq_getElem (by omega)), if_neg hk])
  have HRa := Lib.hid (fun W (hW : Below w.heap.size w W) => hR.below hW)
  have HSa := Lib.hid (fun (h0 : 0 < nS) => hS.at h0)
  have HR1 := Lib.hid (v3_one R)
  obtain ⟨cv, hcv⟩ : ∃ v, condM R x = v := ⟨_, rfl⟩
  obtain ⟨dv, hdv⟩ : ∃ v, condM T x = v := ⟨_, rfl⟩
  simp only [hcv] at CC0 HF
  simp only [hdv] at CT0 HF
  clear hf1 hf2 hf3 HV0 hcv hdv h hL hR hS hok hSok hSin hT
  unfold caseAgg at *
  unfold Ex.agg at C2 CC0 CT0
  obtain ⟨W0, hW0⟩ : ∃ W, W = w.alloc (.cells #[.int .i64 x.op, .string x.tb, .string x.nm, .int .i64 x.ix, .int .i64 x.v.k, .int .i64 x.v.n, .string x.v.s, .slice x.A x.args.length x.c, .slice A0 n0 c0, .slice A n c] 31) := ⟨_, rfl⟩
  have HB1 := Lib.hid (show Below w.heap.size w W0 by rw [hW0]; exact (Below.refl _ w).alloc (Nat.le_refl _) _)
  have K1 := Lib.hid (show Blk W0 w.heap.size 31 #[.int .i64 x.op, .string x.tb, .string x.nm, .int .i64 x.ix, .int .i64 x.v.k, .int .i64 x.v.n, .string x.v.s, .slice x.A x.args.length x.c, .slice A0 n0 c0, .slice A n c] by rw [hW0]; exact Blk.new _ _ _)
  have K1_0 : W0.cell? ⟨w.heap.size, 0, none⟩ = some (.int .i64 x.op) := K1.out.cell 0
  have K1_1 : W0.cell? ⟨w.heap.size, 1, none⟩ = some (.string x.tb) := K1.out.cell 1
  have K1_2 : W0.cell? ⟨w.heap.size, 2, none⟩ = some (.string x.nm) := K1.out.cell 2
  have K1_3 : W0.cell? ⟨w.heap.size, 3, none⟩ = some (.int .i64 x.ix) := K1.out.cell 3
  have K1_4 : W0.cell? ⟨w.heap.size, 4, none⟩ = some (.int .i64 x.v.k) := K1.out.cell 4
  have K1_5 : W0.cell? ⟨w.heap.size, 5, none⟩ = some (.int .i64 x.v.n) := K1.out.cell 5
  have K1_6 : W0.cell? ⟨w.heap.size, 6, none⟩ = some (.string x.v.s) := K1.out.cell 6
  have K1_7 : W0.cell? ⟨w.heap.size, 7, none⟩ = some (.slice x.A x.args.length x.c) := K1.out.cell 7
  have K1_8 : W0.cell? ⟨w.heap.size, 8, none⟩ = some (.slice A0 n0 c0) := K1.out.cell 8
  have K1_9 : W0.cell? ⟨w.heap.size, 9, none⟩ = some (.slice A n c) := K1.out.cell 9
  have K1_l : w.heap.size < W0.heap.size := K1.out.lt
  go_enter Try.func9, Try.ntmps9
  go_upto_region 1 with fail
  rw [← hW0]
  clear hW0
  go_wp2_with fail
  refine (awake_any _).mono ?_
  rintro e w1 ⟨rfl, hb⟩
  have HB2 := Lib.hid (HB1.out.trans (hb.mono HB1.out.size))
  have K2 := Lib.hid (K1.out.below hb)
  clear hb
  clear K1_0 K1_1 K1_2 K1_3 K1_4 K1_5 K1_6 K1_7 K1_8 K1_9 K1_l
  have K2_0 : w1.cell? ⟨w.heap.size, 0, none⟩ = some (.int .i64 x.op) := K2.out.cell 0
  have K2_1 : w1.cell? ⟨w.heap.size, 1, none⟩ = some (.string x.tb) := K2.out.cell 1
  have K2_2 : w1.cell? ⟨w.heap.size, 2, none⟩ = some (.string x.nm) := K2.out.cell 2
  have K2_3 : w1.cell? ⟨w.heap.size, 3, none⟩ = some (.int .i64 x.ix) := K2.out.cell 3
  have K2_4 : w1.cell? ⟨w.heap.size, 4, none⟩ = some (.int .i64 x.v.k) := K2.out.cell 4
  have K2_5 : w1.cell? ⟨w.heap.size, 5, none⟩ = some (.int .i64 x.v.n) := K2.out.cell 5
  have K2_6 : w1.cell? ⟨w.heap.size, 6, none⟩ = some (.string x.v.s) := K2.out.cell 6
  have K2_7 : w1.cell? ⟨w.heap.size, 7, none⟩ = some (.slice x.A x.args.length x.c) := K2.out.cell 7
  have K2_8 : w1.cell? ⟨w.heap.size, 8, none⟩ = some (.slice A0 n0 c0) := K2.out.cell 8
  have K2_9 : w1.cell? ⟨w.heap.size, 9, none⟩ = some (.slice A n c) := K2.out.cell 9
  have K2_l : w.heap.size < w1.heap.size := K2.out.lt
  go_wp2_with fail
  refine (C1.out _ HB2.out).mono ?_
  rintro e w2 ⟨rfl, hb⟩
  have HB3 := Lib.hid (HB2.out.trans (hb.mono HB2.out.size))
  have K3 := Lib.hid (K2.out.below hb)
  clear hb
  clear K2_0 K2_1 K2_2 K2_3 K2_4 K2_5 K2_6 K2_7 K2_8 K2_9 K2_l
  have K3_0 : w2.cell? ⟨w.heap.size, 0, none⟩ = some (.int .i64 x.op) := K3.out.cell 0
  have K3_1 : w2.cell? ⟨w.heap.size, 1, none⟩ = some (.string x.tb) := K3.out.cell 1
  have K3_2 : w2.cell? ⟨w.heap.size, 2, none⟩ = some (.string x.nm) := K3.out.cell 2
  have K3_3 : w2.cell? ⟨w.heap.size, 3, none⟩ = some (.int .i64 x.ix) := K3.out.cell 3
  have K3_4 : w2.cell? ⟨w.heap.size, 4, none⟩ = some (.int .i64 x.v.k) := K3.out.cell 4
  have K3_5 : w2.cell? ⟨w.heap.size, 5, none⟩ = some (.int .i64 x.v.n) := K3.out.cell 5
  have K3_6 : w2.cell? ⟨w.heap.size, 6, none⟩ = some (.string x.v.s) := K3.out.cell 6
  have K3_7 : w2.cell? ⟨w.heap.size, 7, none⟩ = some (.slice x.A x.args.length x.c) := K3.out.cell 7
  have K3_8 : w2.cell? ⟨w.heap.size, 8, none⟩ = some (.slice A0 n0 c0) := K3.out.cell 8
  have K3_9 : w2.cell? ⟨w.heap.size, 9, none⟩ = some (.slice A n c) := K3.out.cell 9
  have K3_l : w.heap.size < w2.heap.size := K3.out.lt
  cases f1
  case false =>
    go_wp2_with fail
    refine (awake_any _).mono ?_
    rintro e z3 ⟨rfl, hb⟩
    have HB4 := Lib.hid (HB3.out.trans (hb.mono HB3.out.size))
    have K4 := Lib.hid (K3.out.below hb)
    clear hb
    clear K3_0 K3_1 K3_2 K3_3 K3_4 K3_5 K3_6 K3_7 K3_8 K3_9 K3_l
    have K4_0 : z3.cell? ⟨w.heap.size, 0, none⟩ = some (.int .i64 x.op) := K4.out.cell 0
    have K4_1 : z3.cell? ⟨w.heap.size, 1, none⟩ = some (.string x.tb) := K4.out.cell 1
    have K4_2 : z3.cell? ⟨w.heap.size, 2, none⟩ = some (.string x.nm) := K4.out.cell 2
    have K4_3 : z3.cell? ⟨w.heap.size, 3, none⟩ = some (.int .i64 x.ix) := K4.out.cell 3
    have K4_4 : z3.cell? ⟨w.heap.size, 4, none⟩ = some (.int .i64 x.v.k) := K4.out.cell 4
    have K4_5 : z3.cell? ⟨w.heap.size, 5, none⟩ = some (.int .i64 x.v.n) := K4.out.cell 5
    have K4_6 : z3.cell? ⟨w.heap.size, 6, none⟩ = some (.string x.v.s) := K4.out.cell 6
    have K4_7 : z3.cell? ⟨w.heap.size, 7, none⟩ = some (.slice x.A x.args.length x.c) := K4.out.cell 7
    have K4_8 : z3.cell? ⟨w.heap.size, 8, none⟩ = some (.slice A0 n0 c0) := K4.out.cell 8
    have K4_9 : z3.cell? ⟨w.heap.size, 9, none⟩ = some (.slice A n c) := K4.out.cell 9
    have K4_l : w.heap.size < z3.heap.size := K4.out.lt
    go_wp2
    go_ret
    exact ⟨rfl, HB4.out⟩
  go_wp2_with fail
  refine (C2.out _ HB3.out).mono ?_
  rintro e w3 ⟨rfl, hb⟩
  have HB4 := Lib.hid (HB3.out.trans (hb.mono HB3.out.size))
  have K4 := Lib.hid (K3.out.below hb)
  clear hb
  clear K3_0 K3_1 K3_2 K3_3 K3_4 K3_5 K3_6 K3_7 K3_8 K3_9 K3_l
  have K4_0 : w3.cell? ⟨w.heap.size, 0, none⟩ = some (.int .i64 x.op) := K4.out.cell 0
  have K4_1 : w3.cell? ⟨w.heap.size, 1, none⟩ = some (.string x.tb) := K4.out.cell 1
  have K4_2 : w3.cell? ⟨w.heap.size, 2, none⟩ = some (.string x.nm) := K4.out.cell 2
  have K4_3 : w3.cell? ⟨w.heap.size, 3, none⟩ = some (.int .i64 x.ix) := K4.out.cell 3
  have K4_4 : w3.cell? ⟨w.heap.size, 4, none⟩ = some (.int .i64 x.v.k) := K4.out.cell 4
  have K4_5 : w3.cell? ⟨w.heap.size, 5, none⟩ = some (.int .i64 x.v.n) := K4.out.cell 5
  have K4_6 : w3.cell? ⟨w.heap.size, 6, none⟩ = some (.string x.v.s) := K4.out.cell 6
  have K4_7 : w3.cell? ⟨w.heap.size, 7, none⟩ = some (.slice x.A x.args.length x.c) := K4.out.cell 7
  have K4_8 : w3.cell? ⟨w.heap.size, 8, none⟩ = some (.slice A0 n0 c0) := K4.out.cell 8
  have K4_9 : w3.cell? ⟨w.heap.size, 9, none⟩ = some (.slice A n c) := K4.out.cell 9
  have K4_l : w.heap.size < w3.heap.size := K4.out.lt
  cases f2
  case true =>
    go_wp2_with fail
    refine (awake_any _).mono ?_
    rintro e z4 ⟨rfl, hb⟩
    have HB5 := Lib.hid (HB4.out.trans (hb.mono HB4.out.size))
    have K5 := Lib.hid (K4.out.below hb)
    clear hb
    clear K4_0 K4_1 K4_2 K4_3 K4_4 K4_5 K4_6 K4_7 K4_8 K4_9 K4_l
    have K5_0 : z4.cell? ⟨w.heap.size, 0, none⟩ = some (.int .i64 x.op) := K5.out.cell 0
    have K5_1 : z4.cell? ⟨w.heap.size, 1, none⟩ = some (.string x.tb) := K5.out.cell 1
    have K5_2 : z4.cell? ⟨w.heap.size, 2, none⟩ = some (.string x.nm) := K5.out.cell 2
    have K5_3 : z4.cell? ⟨w.heap.size, 3, none⟩ = some (.int .i64 x.ix) := K5.out.cell 3
    have K5_4 : z4.cell? ⟨w.heap.size, 4, none⟩ = some (.int .i64 x.v.k) := K5.out.cell 4
    have K5_5 : z4.cell? ⟨w.heap.size, 5, none⟩ = some (.int .i64 x.v.n) := K5.out.cell 5
    have K5_6 : z4.cell? ⟨w.heap.size, 6, none⟩ = some (.string x.v.s) := K5.out.cell 6
    have K5_7 : z4.cell? ⟨w.heap.size, 7, none⟩ = some (.slice x.A x.args.length x.c) := K5.out.cell 7
    have K5_8 : z4.cell? ⟨w.heap.size, 8, none⟩ = some (.slice A0 n0 c0) := K5.out.cell 8
    have K5_9 : z4.cell? ⟨w.heap.size, 9, none⟩ = some (.slice A n c) := K5.out.cell 9
    have K5_l : w.heap.size < z4.heap.size := K5.out.lt
    go_wp2
    go_ret
    exact ⟨rfl, HB5.out⟩
  go_wp2_with fail
  refine (C3.out _ HB4.out).mono ?_
  rintro e w4 ⟨rfl, hb⟩
  have HB5 := Lib.hid (HB4.out.trans (hb.mono HB4.out.size))
  have K5 := Lib.hid (K4.out.below hb)
  clear hb
  clear K4_0 K4_1 K4_2 K4_3 K4_4 K4_5 K4_6 K4_7 K4_8 K4_9 K4_l
  have K5_0 : w4.cell? ⟨w.heap.size, 0, none⟩ = some (.int .i64 x.op) := K5.out.cell 0
  have K5_1 : w4.cell? ⟨w.heap.size, 1, none⟩ = some (.string x.tb) := K5.out.cell 1
  have K5_2 : w4.cell? ⟨w.heap.size, 2, none⟩ = some (.string x.nm) := K5.out.cell 2
  have K5_3 : w4.cell? ⟨w.heap.size, 3, none⟩ = some (.int .i64 x.ix) := K5.out.cell 3
  have K5_4 : w4.cell? ⟨w.heap.size, 4, none⟩ = some (.int .i64 x.v.k) := K5.out.cell 4
  have K5_5 : w4.cell? ⟨w.heap.size, 5, none⟩ = some (.int .i64 x.v.n) := K5.out.cell 5
  have K5_6 : w4.cell? ⟨w.heap.size, 6, none⟩ = some (.string x.v.s) := K5.out.cell 6
  have K5_7 : w4.cell? ⟨w.heap.size, 7, none⟩ = some (.slice x.A x.args.length x.c) := K5.out.cell 7
  have K5_8 : w4.cell? ⟨w.heap.size, 8, none⟩ = some (.slice A0 n0 c0) := K5.out.cell 8
  have K5_9 : w4.cell? ⟨w.heap.size, 9, none⟩ = some (.slice A n c) := K5.out.cell 9
  have K5_l : w.heap.size < w4.heap.size := K5.out.lt
  cases f3
  case false =>
    go_wp2_with fail
    refine (awake_any _).mono ?_
    rintro e z5 ⟨rfl, hb⟩
    have HB6 := Lib.hid (HB5.out.trans (hb.mono HB5.out.size))
    have K6 := Lib.hid (K5.out.below hb)
    clear hb
    clear K5_0 K5_1 K5_2 K5_3 K5_4 K5_5 K5_6 K5_7 K5_8 K5_9 K5_l
    have K6_0 : z5.cell? ⟨w.heap.size, 0, none⟩ = some (.int .i64 x.op) := K6.out.cell 0
    have K6_1 : z5.cell? ⟨w.heap.size, 1, none⟩ = some (.string x.tb) := K6.out.cell 1
    have K6_2 : z5.cell? ⟨w.heap.size, 2, none⟩ = some (.string x.nm) := K6.out.cell 2
    have K6_3 : z5.cell? ⟨w.heap.size, 3, none⟩ = some (.int .i64 x.ix) := K6.out.cell 3
    have K6_4 : z5.cell? ⟨w.heap.size, 4, none⟩ = some (.int .i64 x.v.k) := K6.out.cell 4
    have K6_5 : z5.cell? ⟨w.heap.size, 5, none⟩ = some (.int .i64 x.v.n) := K6.out.cell 5
    have K6_6 : z5.cell? ⟨w.heap.size, 6, none⟩ = some (.string x.v.s) := K6.out.cell 6
    have K6_7 : z5.cell? ⟨w.heap.size, 7, none⟩ = some (.slice x.A x.args.length x.c) := K6.out.cell 7
    have K6_8 : z5.cell? ⟨w.heap.size, 8, none⟩ = some (.slice A0 n0 c0) := K6.out.cell 8
    have K6_9 : z5.cell? ⟨w.heap.size, 9, none⟩ = some (.slice A n c) := K6.out.cell 9
    have K6_l : w.heap.size < z5.heap.size := K6.out.lt
    go_wp2
    go_ret
    exact ⟨rfl, HB6.out⟩
  obtain ⟨hsm, hRS, h12⟩ := HV.out (by simp) (by simp)
  have CC := Lib.hid (CC0.out hsm)
  have CT := Lib.hid (CT0.out hsm)
  have hF := Lib.hid (HF.out hRS (by simp))
  have hTl := Lib.hid (HTl.out hRS)
  have HRL := Lib.hid HRl
  have hn12 : n ≤ 12 := by omega
  have hnS' : nS = n := by omega
  have HNS := Lib.hid hnS'
  clear hnS'
  have HRS := Lib.hid hRS
  clear CC0 CT0 HF HTl HV C1 C2 C3 hsm hRS h12 HRl HSl
  obtain ⟨i0, hi, hz0, hz1, hz2⟩ := info_parts (show (Try.prog.info? 23).map (fun i => (i.zero, i.size, i.bytes)) = some (some (.agg #[.int .i64 0, .int .i64 0, .string ⟨#[]⟩]), 3, 32) by kernel_rfl)
  have HBx := Lib.hid (show Below w.heap.size w (w4.alloc (.cells #[] 23)) from HB5.out.alloc HB5.out.size _)
  have HGx := Lib.hid (show Blk (w4.alloc (.cells #[] 23)) w4.heap.size 23 #[] from Blk.new _ _ _)
  have KX := Lib.hid (show Blk (w4.alloc (.cells #[] 23)) w.heap.size 31 #[.int .i64 x.op, .string x.tb, .string x.nm, .int .i64 x.ix, .int .i64 x.v.k, .int .i64 x.v.n, .string x.v.s, .slice x.A x.args.length x.c, .slice A0 n0 c0, .slice A n c] from K5.out.alloc _)
  have KX_9 : (w4.alloc (.cells #[] 23)).cell? ⟨w.heap.size, 9, none⟩ = some (.slice A n c) := KX.out.cell 9
  go_wp2_with (at_builtin; go_loud (refine wpList_append_mine _ rfl _ _ 29 29 rfl 23 i0 _ 3 32 Try.underlying29 hi hz0 hz1 hz2 rfl _ rfl HGx.out _ n _ rfl (At.src Try.underlying29 (HRa.out _ HBx.out) HR1.out (by decide)) (by unfold maxLen; omega) (by omega) ?_))
  intro g' c' u1 cs hblk hge hcs _ _ hb
  have HB6 := Lib.hid (HBx.out.trans (hb.mono (by have := HBx.out.size; simpa using this)))
  have K6 := Lib.hid (KX.out.below (show Below (w4.alloc (.cells #[] 23)).heap.size (w4.alloc (.cells #[] 23)) u1 by simpa using hb))
  have HGL := Lib.hid (show w.heap.size < g' by
    have := K5.out.lt
    rcases hge with e | e
    · omega
    · omega)
  have HK := Lib.hid (show Blk u1 g' 23 cs from hblk)
  have HCS := Lib.hid (show ∀ (j : Nat) v, R[j]? = some v → cs[j * 3]? = some (.int .i64 v.k) ∧ cs[j * 3 + 1]? = some (.int .i64 v.n) ∧ cs[j * 3 + 2]? = some (.string v.s) from fun j v hv => by
    obtain ⟨hj, he⟩ := List.getElem?_eq_some_iff.1 hv
    have q : ∀ r u, r < 3 → (V3.cells R[j])[r]? = some u → cs[j * 3 + r]? = some u := fun r u hr hu => hcs _ _ ((flat_get V3.cells 3 (fun _ => rfl) R j r hj hr).trans hu)
    rw [he] at q
    exact ⟨q 0 _ (by decide) rfl, q 1 _ (by decide) rfl, q 2 _ (by decide) rfl⟩)
  clear hblk hge hcs hb HBx HGx KX KX_9 HB5 K5 K5_0 K5_1 K5_2 K5_3 K5_4 K5_5 K5_6 K5_7 K5_8 K5_9 K5_l
  go_wp2
  go_loopw [34] (fun iv wr => ∃ (i : Nat) (cs : Array Value), iv = .int .i64 (i : Int) ∧ i ≤ n ∧ Blk wr g' 23 cs ∧ Blk wr w.heap.size 31 #[.int .i64 x.op, .string x.tb, .string x.nm, .int .i64 x.ix, .int .i64 x.v.k, .int .i64 x.v.n, .string x.v.s, .slice x.A x.args.length x.c, .slice A0 n0 c0, .slice A n c] ∧ Below w.heap.size w wr ∧ (∀ (j : Nat) v, j < i → T[j]? = some v → cs[j * 3]? = some (.int .i64 v.k) ∧ cs[j * 3 + 1]? = some (.int .i64 v.n) ∧ cs[j * 3 + 2]? = some (.string v.s)) ∧ (∀ (j : Nat) v, i ≤ j → R[j]? = some v → cs[j * 3]? = some (.int .i64 v.k) ∧ cs[j * 3 + 1]? = some (.int .i64 v.n) ∧ cs[j * 3 + 2]? = some (.string v.s))) (fun iv _ => n - (intOf iv).toNat)
  case atStart => exact ⟨0, cs, rfl, Nat.zero_le _, HK.out, K6.out, HB6.out, fun j v hj => by omega, fun j v _ hv => HCS.out j v hv⟩
  case round =>
    obtain ⟨i, cs, rfl, hin, hk, hk31, hb, ht, hr⟩ := hrel
    have HK := Lib.hid hk
    have K7 := Lib.hid hk31
    have HB := Lib.hid hb
    have HTc := Lib.hid ht
    have HRc := Lib.hid hr
    clear hk hk31 hb ht hr HCS HB6 K6
    by_cases hlt : i < n
    · have hlti : (i : Int) < n := by omega
      have hltS : (i : Int) < nS := by have := HNS.out; omega
      have hiR : i < R.length := by have := HRL.out; omega
      have hiS : i < S.length := by have := HRS.out; omega
      obtain ⟨r, hr⟩ : ∃ r, R[i]? = some r := ⟨_, List.getElem?_eq_getElem hiR⟩
      obtain ⟨s, hs⟩ : ∃ s, S[i]? = some s := ⟨_, List.getElem?_eq_getElem hiS⟩
      have HTi := Lib.hid (HTg.out i r s hr hs)
      obtain ⟨q0, q1, q2⟩ := HRc.out i r (Nat.le_refl _) hr
      have d0 : wr.cell? ⟨g', i * 3, none⟩ = some (.int .i64 r.k) := (HK.out.cell _).trans q0
      have d1 : wr.cell? ⟨g', i * 3 + 1, none⟩ = some (.int .i64 r.n) := (HK.out.cell _).trans q1
      have d2 : wr.cell? ⟨g', i * 3 + 2, none⟩ = some (.string r.s) := (HK.out.cell _).trans q2
      have f0 : wr.frozen? ⟨g', i * 3, none⟩ = false := Joins.unfrozen_of_block HK.out _
      have f1 : wr.frozen? ⟨g', i * 3 + 1, none⟩ = false := Joins.unfrozen_of_block HK.out _
      have f2 : wr.frozen? ⟨g', i * 3 + 2, none⟩ = false := Joins.unfrozen_of_block HK.out _
      have hsz := Lib.hid (show i * 3 + 2 < cs.size from (Array.getElem?_eq_some_iff.1 q2).1)
      clear q0 q1 q2
      obtain ⟨rk, hrk⟩ : ∃ k, r.k = k := ⟨_, rfl⟩
      rw [hrk] at d0 HTi
      have HRr := Lib.hid hr
      have HRk := Lib.hid hrk
      clear hr hrk
      by_cases hz : rk = 0
      · subst hz
        obtain ⟨b, off, rfl, hbl, hc⟩ := HSa.out (by have := HNS.out; omega)
        obtain ⟨s0, s1, s2⟩ := hc wr HB.out i hiS
        have es : S[i] = s := by rw [List.getElem?_eq_getElem hiS] at hs; exact Option.some.inj hs
        rw [es] at s0 s1 s2
        have HTs := Lib.hid (show T[i]? = some s by rw [HTi.out]; rfl)
        clear hc es hs HTi
        go_upto_region 9 with fail
        have st1 := store_step HK.out (i * 3) (.int .i64 s.k)
        have st2 := store_step st1.1 (i * 3 + 1) (.int .i64 s.n)
        have st3 := store_step st2.1 (i * 3 + 2) (.string s.s)
        obtain ⟨w3, hw3⟩ : ∃ W, W = ((wr.setCell ⟨g', i * 3, none⟩ (.int .i64 s.k)).setCell ⟨g', i * 3 + 1, none⟩ (.int .i64 s.n)).setCell ⟨g', i * 3 + 2, none⟩ (.string s.s) := ⟨_, rfl⟩
        rw [← hw3] at st3 ⊢
        obtain ⟨ds, hds⟩ : ∃ ds, ds = ((cs.setIfInBounds (i * 3) (.int .i64 s.k)).setIfInBounds (i * 3 + 1) (.int .i64 s.n)).setIfInBounds (i * 3 + 2) (.string s.s) := ⟨_, rfl⟩
        rw [← hds] at st3
        have hgl := HGL.out
        have N5 := Lib.hid st3.1
        have N7 := Lib.hid (st3.2.1 _ _ _ (by omega) (st2.2.1 _ _ _ (by omega) (st1.2.1 _ _ _ (by omega) K7.out)))
        have HB3 := Lib.hid (st3.2.2 _ _ (st2.2.2 _ _ (st1.2.2 _ _ HB.out (by omega)) (by omega)) (by omega))
        have hot := Lib.hid (show ∀ j, j ≠ i → ∀ r, r < 3 → ds[j * 3 + r]? = cs[j * 3 + r]? from fun j hj r hr => by
          rw [hds, Array.getElem?_setIfInBounds_ne (by omega), Array.getElem?_setIfInBounds_ne (by omega), Array.getElem?_setIfInBounds_ne (by omega)])
        have hsame := Lib.hid (show ds[i * 3]? = some (.int .i64 s.k) ∧ ds[i * 3 + 1]? = some (.int .i64 s.n) ∧ ds[i * 3 + 2]? = some (.string s.s) by
          have hz := hsz.out
          rw [hds]
          refine ⟨?_, ?_, ?_⟩
          · rw [Array.getElem?_setIfInBounds_ne (by omega), Array.getElem?_setIfInBounds_ne (by omega), Array.getElem?_setIfInBounds_self_of_lt (by omega)]
          · rw [Array.getElem?_setIfInBounds_ne (by omega), Array.getElem?_setIfInBounds_self_of_lt (by simp; omega)]
          · rw [Array.getElem?_setIfInBounds_self_of_lt (by simp; omega)])
        clear st1 st2 st3 hw3 hds HK K7 HB d0 d1 d2 f0 f1 f2 s0 s1 s2
        go_wp2
        go_roundw
        case rel =>
          refine ⟨i + 1, ds, by go_num, by omega, N5.out, N7.out, HB3.out, fun j v hj hv => ?_, fun j v hj hv => ?_⟩
          · by_cases hji : j = i
            · subst hji
              rw [HTs.out] at hv
              cases hv
              exact hsame.out
            · have q := hot.out j hji
              have := HTc.out j v (by omega) hv
              exact ⟨(q 0 (by decide)).trans this.1, (q 1 (by decide)).trans this.2.1, (q 2 (by decide)).trans this.2.2⟩
          · have q := hot.out j (by omega)
            have := HRc.out j v (by omega) hv
            exact ⟨(q 0 (by decide)).trans this.1, (q 1 (by decide)).trans this.2.1, (q 2 (by decide)).trans this.2.2⟩
        case measure => simp only [intOf]; rw [show ((i : Int) + 1).toNat = i + 1 by omega]; omega
      · have ez : (rk == 0) = false := by simpa using hz
        have HTs := Lib.hid (show T[i]? = some r by rw [HTi.out, if_neg hz])
        clear HTi hz
        go_wp2
        go_roundw
        case rel =>
          refine ⟨i + 1, cs, by go_num, by omega, HK.out, K7.out, HB.out, fun j v hj hv => ?_, fun j v hj hv => HRc.out j v (by omega) hv⟩
          by_cases hji : j = i
          · subst hji
            rw [HTs.out] at hv
            cases hv
            exact HRc.out j _ (Nat.le_refl _) HRr.out
          · exact HTc.out j v (by omega) hv
        case measure => simp only [intOf]; rw [show ((i : Int) + 1).toNat = i + 1 by omega]; omega
    · have hlti : ¬ (i : Int) < n := by omega
      obtain rfl : n = i := by omega
      have HVT := Lib.hid (show Vls wr (some ⟨g', 0, none⟩) n T from at_flat V3.cells 3 (fun _ => rfl) (by decide) T n g' 0 (by have := hTl.out; have := HRL.out; omega) (fun _ => HK.out.lt) (fun j hj r v hr hv => by
        have hji : j < n := by have := hTl.out; have := HRL.out; omega
        obtain ⟨q0, q1, q2⟩ := HTc.out j T[j] hji (List.getElem?_eq_getElem hj)
        rw [Nat.zero_add, HK.out.cell]
        match r, hr with
        | 0, _ => obtain rfl := Option.some.inj hv; exact q0
        | 1, _ => obtain rfl := Option.some.inj hv; exact q1
        | 2, _ => obtain rfl := Option.some.inj hv; exact q2))
      clear HTc HRc HK
      have K7_0 : wr.cell? ⟨w.heap.size, 0, none⟩ = some (.int .i64 x.op) := K7.out.cell 0
      have K7_1 : wr.cell? ⟨w.heap.size, 1, none⟩ = some (.string x.tb) := K7.out.cell 1
      have K7_2 : wr.cell? ⟨w.heap.size, 2, none⟩ = some (.string x.nm) := K7.out.cell 2
      have K7_3 : wr.cell? ⟨w.heap.size, 3, none⟩ = some (.int .i64 x.ix) := K7.out.cell 3
      have K7_4 : wr.cell? ⟨w.heap.size, 4, none⟩ = some (.int .i64 x.v.k) := K7.out.cell 4
      have K7_5 : wr.cell? ⟨w.heap.size, 5, none⟩ = some (.int .i64 x.v.n) := K7.out.cell 5
      have K7_6 : wr.cell? ⟨w.heap.size, 6, none⟩ = some (.string x.v.s) := K7.out.cell 6
      have K7_7 : wr.cell? ⟨w.heap.size, 7, none⟩ = some (.slice x.A x.args.length x.c) := K7.out.cell 7
      have K7_8 : wr.cell? ⟨w.heap.size, 8, none⟩ = some (.slice A0 n0 c0) := K7.out.cell 8
      have K7_9 : wr.cell? ⟨w.heap.size, 9, none⟩ = some (.slice A n c) := K7.out.cell 9
      have K7_l : w.heap.size < wr.heap.size := K7.out.lt
      go_wp2_with fail
      refine (CC.out _ HB.out).mono ?_
      rintro e y1 ⟨rfl, hb⟩
      have HB8 := Lib.hid (HB.out.trans (hb.mono HB.out.size))
      have K8 := Lib.hid (K7.out.below hb)
      have HVT8 := Lib.hid (HVT.out.below hb)
      clear hb HVT
      clear K7_0 K7_1 K7_2 K7_3 K7_4 K7_5 K7_6 K7_7 K7_8 K7_9 K7_l
      have K8_0 : y1.cell? ⟨w.heap.size, 0, none⟩ = some (.int .i64 x.op) := K8.out.cell 0
      have K8_1 : y1.cell? ⟨w.heap.size, 1, none⟩ = some (.string x.tb) := K8.out.cell 1
      have K8_2 : y1.cell? ⟨w.heap.size, 2, none⟩ = some (.string x.nm) := K8.out.cell 2
      have K8_3 : y1.cell? ⟨w.heap.size, 3, none⟩ = some (.int .i64 x.ix) := K8.out.cell 3
      have K8_4 : y1.cell? ⟨w.heap.size, 4, none⟩ = some (.int .i64 x.v.k) := K8.out.cell 4
      have K8_5 : y1.cell? ⟨w.heap.size, 5, none⟩ = some (.int .i64 x.v.n) := K8.out.cell 5
      have K8_6 : y1.cell? ⟨w.heap.size, 6, none⟩ = some (.string x.v.s) := K8.out.cell 6
      have K8_7 : y1.cell? ⟨w.heap.size, 7, none⟩ = some (.slice x.A x.args.length x.c) := K8.out.cell 7
      have K8_8 : y1.cell? ⟨w.heap.size, 8, none⟩ = some (.slice A0 n0 c0) := K8.out.cell 8
      have K8_9 : y1.cell? ⟨w.heap.size, 9, none⟩ = some (.slice A n c) := K8.out.cell 9
      have K8_l : w.heap.size < y1.heap.size := K8.out.lt
      by_cases h2 : cv = 2
      · subst h2
        go_wp2
        go_ret
        exact ⟨rfl, HB8.out⟩
      have e2 : (cv == 2) = false := by simpa using h2
      have HE := Lib.hid (hF.out h2)
      clear h2
      go_wp2_with fail
      refine (CT.out _ HB8.out g' c' HVT8.out).mono ?_
      rintro e y2 ⟨rfl, hb⟩
      have HB9 := Lib.hid (HB8.out.trans (hb.mono HB8.out.size))
      clear hb
      have hE := HE.out
      subst hE
      go_wp2
      go_ret
      exact ⟨by simp, HB9.out⟩

set_option maxRecDepth 100000 in
theorem evaluateMonotone_lifted (os : Os) (started : os.Started) (H : Type) (enc : TypeId × Value → H) :
    ReturnsInHanded {} Try.checked os 9 .any (Rows.evaluateMonotoneSpec.pre6 enc Try.prog Try.f9 Rows.evaluateMonotoneRow.domain false) (Rows.evaluateMonotoneSpec.post enc Try.prog Try.f9 false true false false) := by
  refine law_lifted (C := Try.checked) (B := 4) Try.own started (by kernel_rfl) Try.func9
    (ChangeSpec.witness6 (enc := enc) (C := Try.checked) false ⟨#[], #[.agg #[.int .i64 0, .string ⟨#[]⟩, .string ⟨#[]⟩, .int .i64 0, .int .i64 0, .int .i64 0, .string ⟨#[]⟩, .slice none 0 0, .slice none 0 0, .slice none 0 0], .slice none 0 0], []⟩ 8 (by kernel_rfl) (by kernel_rfl) (by kernel_rfl) (by kernel_rfl))
    Try.laidOut (by kernel_rfl) rfl rfl rfl Try.underlying4 (fun ds h => match ds, h with | [_, _], _ => rfl) ?_
  intro W base args ds ps hval hA hlt hsz
  rw [Try.params9] at hA hval hsz
  obtain ⟨v0, vs0, d0, ds0, p0, q0, hargs, rfl, rfl, h0, r0⟩ := trodAll_cons hA
  obtain ⟨v1, vs1, d1, ds1, p1, q1, rfl, rfl, rfl, h1, r1⟩ := trodAll_cons r0
  obtain ⟨rfl, rfl, rfl⟩ := trodAll_nil r1
  obtain rfl : args = #[v0, v1] := by cases args; simp_all
  obtain ⟨L0, R0, x0, A0, B0, n0, c0, m0, e0, rfl, k0, kL0, kR0, kn0, ko0, -, -⟩ := open_case (hval 0 31 v0 rfl rfl) h0 (fun x hx => hlt x (by simp [hx])) hsz (j := 0) rfl rfl
  obtain ⟨A1, n1, c1, R1, rfl, k1, l1, g1⟩ := open_row (hval 1 29 v1 rfl rfl) h1 (fun x hx => hlt x (by simp [hx])) hsz (j := 1) rfl rfl
  exact evaluateMonotone_walk L0 R0 x0 A0 B0 n0 c0 m0 e0 A1 n1 c1 R1 W k0 kL0 kR0 kn0 ko0 k1 l1 g1

theorem evaluateMonotone_over : Rows.evaluateMonotoneRow.holds Try.pinned (OpenSpec.ofChange Rows.evaluateMonotoneSpec) :=
  OpenClaim.holds_of_wide 9 Try.f9 rfl rfl rfl rfl rfl rfl rfl ⟨rfl, rfl, rfl, rfl, rfl⟩ rfl rfl rfl rfl rfl (by kernel_rfl) Try.func9 (by kernel_rfl)
    (of_decide_eq_true (by kernel_rfl)) (by unfold Func.isWrapper; first | (rw [if_pos (by decide +kernel)]; kernel_rfl) | (rw [if_neg (by decide +kernel)]; exact ⟨rfl, rfl⟩))
    (fun os started H enc _ => evaluateMonotone_lifted os started H enc)

theorem evaluateMonotone_proved : Rows.EvaluateMonotoneSaid := evaluateMonotone_over
end Go.Proofs.Ytfhbffgnpedaeaa
