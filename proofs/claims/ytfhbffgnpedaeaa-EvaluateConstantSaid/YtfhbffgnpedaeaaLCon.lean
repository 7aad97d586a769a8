/- Law EvaluateConstant: for every input the call returns true, and its arguments read afterwards as before. -/
import Derived.Test.YtfhbffgnpedaeaaErm
import Derived.Test.YtfhbffgnpedaeaaEaw
import Derived.Test.YtfhbffgnpedaeaaEft
import Derived.Test.YtfhbffgnpedaeaaEsm
import Derived.Test.YtfhbffgnpedaeaaEop
import Derived.Test.YtfhbffgnpedaeaaMix
namespace Go.Proofs.Ytfhbffgnpedaeaa
open Go.ChangeShapes Go.WideShapes Go.ChangeAt Go.RowKit Go.ChangeMaps

set_option maxRecDepth 100000 in
set_option maxHeartbeats 4000000 in
theorem evaluateConstant_walk (x : Ex) (A0 : Option Addr) (n0 c0 : Nat) (L : List Va) (w : World) (h : ExAt w x) (hL : At w A0 n0 5 (L.flatMap Va.cells)) (_ : n0 ≤ 9223372036854775807) (_ : ∀ v ∈ L, v.in) : Calls Try.prog 6 #[x.agg, .slice A0 n0 c0] w fun e w' => e = .returned (.bool true) ∧ Below w.heap.size w w' := by
  have hL : Vas w A0 n0 L := hL
  have C1 := Lib.hid (fun W (hW : Below w.heap.size w W) => Fits_any L A0 n0 c0 x 1 W (h.keep hW) (hL.below hW))
  have C2 := Lib.hid (fun W (hW : Below w.heap.size w W) => Fits_any L A0 n0 c0 x 2 W (h.keep hW) (hL.below hW))
  obtain ⟨f1, hf1⟩ : ∃ u, fitM L 1 x = u := ⟨_, rfl⟩
  obtain ⟨f2, hf2⟩ : ∃ u, fitM L 2 x = u := ⟨_, rfl⟩
  simp only [hf1, hf2] at C1 C2
  have HV0 : f1 = true ∨ f2 = true → ExSm x ∧ (colM x = false → VOk [] x) := by
    rintro (g | g)
    · rw [g] at hf1
      refine ⟨fit_sm L 1 x hf1 (by decide), fun hc => ?_⟩
      unfold fitM at hf1
      simp only [Bool.and_eq_true] at hf1
      exact ty_vok L [] x (by rcases (isC_iff _ _).1 hf1.2.2.1 with g | g <;> omega) (.inl hc)
    · rw [g] at hf2
      refine ⟨fit_sm L 2 x hf2 (by decide), fun hc => ?_⟩
      unfold fitM at hf2
      simp only [Bool.and_eq_true] at hf2
      exact ty_vok L [] x (by rcases (isC_iff _ _).1 hf2.2.2.1 with g | g <;> omega) (.inl hc)
  have HV := Lib.hid HV0
  have CV0 := Lib.hid (fun (hs : ExSm x) W (hW : Below w.heap.size w W) => Constant_any x W (h.keep hW) hs)
  have CR0 := Lib.hid (fun (hs : colM x = false → VOk [] x) W (hW : Below w.heap.size w W) => RConstant_any x W (h.keep hW) hs)
  obtain ⟨u, hu⟩ : ∃ v, constM x = v := ⟨_, rfl⟩
  obtain ⟨q, hq⟩ : ∃ v : Int, (if colM x = true then 1 else 0) = v := ⟨_, rfl⟩
  simp only [hu, hq] at CV0 CR0
  clear hf1 hf2 HV0 hu hq h hL
  unfold Ex.agg V3.agg at *
  obtain ⟨W0, hW0⟩ : ∃ W, W = w.alloc (.cells #[.int .i64 x.op, .string x.tb, .string x.nm, .int .i64 x.ix, .int .i64 x.v.k, .int .i64 x.v.n, .string x.v.s, .slice x.A x.args.length x.c] 26) := ⟨_, rfl⟩
  have HB1 := Lib.hid (show Below w.heap.size w W0 by rw [hW0]; exact (Below.refl _ w).alloc (Nat.le_refl _) _)
  have K1 := Lib.hid (show Blk W0 w.heap.size 26 #[.int .i64 x.op, .string x.tb, .string x.nm, .int .i64 x.ix, .int .i64 x.v.k, .int .i64 x.v.n, .string x.v.s, .slice x.A x.args.length x.c] by rw [hW0]; exact Blk.new _ _ _)
  have K1_0 : W0.cell? ⟨w.heap.size, 0, none⟩ = some (.int .i64 x.op) := K1.out.cell 0
  have K1_1 : W0.cell? ⟨w.heap.size, 1, none⟩ = some (.string x.tb) := K1.out.cell 1
  have K1_2 : W0.cell? ⟨w.heap.size, 2, none⟩ = some (.string x.nm) := K1.out.cell 2
  have K1_3 : W0.cell? ⟨w.heap.size, 3, none⟩ = some (.int .i64 x.ix) := K1.out.cell 3
  have K1_4 : W0.cell? ⟨w.heap.size, 4, none⟩ = some (.int .i64 x.v.k) := K1.out.cell 4
  have K1_5 : W0.cell? ⟨w.heap.size, 5, none⟩ = some (.int .i64 x.v.n) := K1.out.cell 5
  have K1_6 : W0.cell? ⟨w.heap.size, 6, none⟩ = some (.string x.v.s) := K1.out.cell 6
  have K1_7 : W0.cell? ⟨w.heap.size, 7, none⟩ = some (.slice x.A x.args.length x.c) := K1.out.cell 7
  have K1_l : w.heap.size < W0.heap.size := K1.out.lt
  go_enter Try.func6, Try.ntmps6
  go_upto_region 1 with fail
  rw [← hW0]
  clear hW0
  go_wp2_with fail
  refine (awake_any _).mono ?_
  rintro e w1 ⟨rfl, hb⟩
  have HB2 := Lib.hid (HB1.out.trans (hb.mono HB1.out.size))
  have K2 := Lib.hid (K1.out.below hb)
  clear hb
  clear K1_0 K1_1 K1_2 K1_3 K1_4 K1_5 K1_6 K1_7 K1_l
  have K2_0 : w1.cell? ⟨w.heap.size, 0, none⟩ = some (.int .i64 x.op) := K2.out.cell 0
  have K2_1 : w1.cell? ⟨w.heap.size, 1, none⟩ = some (.string x.tb) := K2.out.cell 1
  have K2_2 : w1.cell? ⟨w.heap.size, 2, none⟩ = some (.string x.nm) := K2.out.cell 2
  have K2_3 : w1.cell? ⟨w.heap.size, 3, none⟩ = some (.int .i64 x.ix) := K2.out.cell 3
  have K2_4 : w1.cell? ⟨w.heap.size, 4, none⟩ = some (.int .i64 x.v.k) := K2.out.cell 4
  have K2_5 : w1.cell? ⟨w.heap.size, 5, none⟩ = some (.int .i64 x.v.n) := K2.out.cell 5
  have K2_6 : w1.cell? ⟨w.heap.size, 6, none⟩ = some (.string x.v.s) := K2.out.cell 6
  have K2_7 : w1.cell? ⟨w.heap.size, 7, none⟩ = some (.slice x.A x.args.length x.c) := K2.out.cell 7
  have K2_l : w.heap.size < w1.heap.size := K2.out.lt
  go_wp2_with fail
  refine (C1.out _ HB2.out).mono ?_
  rintro e w2 ⟨rfl, hb⟩
  have HB3 := Lib.hid (HB2.out.trans (hb.mono HB2.out.size))
  have K3 := Lib.hid (K2.out.below hb)
  clear hb
  clear K2_0 K2_1 K2_2 K2_3 K2_4 K2_5 K2_6 K2_7 K2_l
  have K3_0 : w2.cell? ⟨w.heap.size, 0, none⟩ = some (.int .i64 x.op) := K3.out.cell 0
  have K3_1 : w2.cell? ⟨w.heap.size, 1, none⟩ = some (.string x.tb) := K3.out.cell 1
  have K3_2 : w2.cell? ⟨w.heap.size, 2, none⟩ = some (.string x.nm) := K3.out.cell 2
  have K3_3 : w2.cell? ⟨w.heap.size, 3, none⟩ = some (.int .i64 x.ix) := K3.out.cell 3
  have K3_4 : w2.cell? ⟨w.heap.size, 4, none⟩ = some (.int .i64 x.v.k) := K3.out.cell 4
  have K3_5 : w2.cell? ⟨w.heap.size, 5, none⟩ = some (.int .i64 x.v.n) := K3.out.cell 5
  have K3_6 : w2.cell? ⟨w.heap.size, 6, none⟩ = some (.string x.v.s) := K3.out.cell 6
  have K3_7 : w2.cell? ⟨w.heap.size, 7, none⟩ = some (.slice x.A x.args.length x.c) := K3.out.cell 7
  have K3_l : w.heap.size < w2.heap.size := K3.out.lt
  cases f1
  case true =>
    have CV := Lib.hid (CV0.out (HV.out (by simp)).1)
    have CR := Lib.hid (CR0.out (HV.out (by simp)).2)
    clear CV0 CR0 HV
    go_wp2_with fail
    refine (CV.out _ HB3.out).mono ?_
    rintro e x1 ⟨rfl, hb⟩
    have HC1 := Lib.hid (HB3.out.trans (hb.mono HB3.out.size))
    have J1 := Lib.hid (K3.out.below hb)
    clear hb
    clear K3_0 K3_1 K3_2 K3_3 K3_4 K3_5 K3_6 K3_7 K3_l
    obtain ⟨x2, hx2⟩ : ∃ W, W = x1.alloc (.cells #[.int .i64 u.k, .int .i64 u.n, .string u.s] 23) := ⟨_, rfl⟩
    have HC2 := Lib.hid (show Below w.heap.size w x2 by rw [hx2]; exact HC1.out.alloc HC1.out.size _)
    have J2 := Lib.hid (show Blk x2 w.heap.size 26 #[.int .i64 x.op, .string x.tb, .string x.nm, .int .i64 x.ix, .int .i64 x.v.k, .int .i64 x.v.n, .string x.v.s, .slice x.A x.args.length x.c] by rw [hx2]; exact J1.out.alloc _)
    have N2 := Lib.hid (show Blk x2 x1.heap.size 23 #[.int .i64 u.k, .int .i64 u.n, .string u.s] by rw [hx2]; exact Blk.new _ _ _)
    have j0 : x1.cell? ⟨w.heap.size, 0, none⟩ = some (.int .i64 x.op) := J1.out.cell 0
    have j1 : x1.cell? ⟨w.heap.size, 1, none⟩ = some (.string x.tb) := J1.out.cell 1
    have j2 : x1.cell? ⟨w.heap.size, 2, none⟩ = some (.string x.nm) := J1.out.cell 2
    have j3 : x1.cell? ⟨w.heap.size, 3, none⟩ = some (.int .i64 x.ix) := J1.out.cell 3
    have j4 : x1.cell? ⟨w.heap.size, 4, none⟩ = some (.int .i64 x.v.k) := J1.out.cell 4
    have j5 : x1.cell? ⟨w.heap.size, 5, none⟩ = some (.int .i64 x.v.n) := J1.out.cell 5
    have j6 : x1.cell? ⟨w.heap.size, 6, none⟩ = some (.string x.v.s) := J1.out.cell 6
    have j7 : x1.cell? ⟨w.heap.size, 7, none⟩ = some (.slice x.A x.args.length x.c) := J1.out.cell 7
    have m0 : x2.cell? ⟨w.heap.size, 0, none⟩ = some (.int .i64 x.op) := J2.out.cell 0
    have m1 : x2.cell? ⟨w.heap.size, 1, none⟩ = some (.string x.tb) := J2.out.cell 1
    have m2 : x2.cell? ⟨w.heap.size, 2, none⟩ = some (.string x.nm) := J2.out.cell 2
    have m3 : x2.cell? ⟨w.heap.size, 3, none⟩ = some (.int .i64 x.ix) := J2.out.cell 3
    have m4 : x2.cell? ⟨w.heap.size, 4, none⟩ = some (.int .i64 x.v.k) := J2.out.cell 4
    have m5 : x2.cell? ⟨w.heap.size, 5, none⟩ = some (.int .i64 x.v.n) := J2.out.cell 5
    have m6 : x2.cell? ⟨w.heap.size, 6, none⟩ = some (.string x.v.s) := J2.out.cell 6
    have m7 : x2.cell? ⟨w.heap.size, 7, none⟩ = some (.slice x.A x.args.length x.c) := J2.out.cell 7
    have jl : w.heap.size < x1.heap.size := J1.out.lt
    rw [hx2] at m0 m1 m2 m3 m4 m5 m6 m7
    go_wp2_with fail
    rw [← hx2]
    clear hx2 j0 j1 j2 j3 j4 j5 j6 j7 m0 m1 m2 m3 m4 m5 m6 m7 jl
    generalize x1.heap.size = g1 at *
    refine (CR.out _ HC2.out).mono ?_
    rintro e x3 ⟨rfl, hb⟩
    have HC3 := Lib.hid (HC2.out.trans (hb.mono HC2.out.size))
    have N3 := Lib.hid (N2.out.below hb)
    clear hb HC1 HC2 J1 J2 N2
    have p0 : (x3.alloc (.cells #[.int .i64 u.k, .int .i64 u.n, .string u.s] 23)).cell? ⟨g1, 0, none⟩ = some (.int .i64 u.k) := (N3.out.alloc _).cell 0
    have p1 : (x3.alloc (.cells #[.int .i64 u.k, .int .i64 u.n, .string u.s] 23)).cell? ⟨g1, 1, none⟩ = some (.int .i64 u.n) := (N3.out.alloc _).cell 1
    have p2 : (x3.alloc (.cells #[.int .i64 u.k, .int .i64 u.n, .string u.s] 23)).cell? ⟨g1, 2, none⟩ = some (.string u.s) := (N3.out.alloc _).cell 2
    have HC4 := Lib.hid (HC3.out.alloc (o := .cells #[.int .i64 u.k, .int .i64 u.n, .string u.s] 23) HC3.out.size)
    go_wp2
    go_ret
    exact ⟨by simp, HC4.out⟩
  go_wp2_with fail
  refine (C2.out _ HB3.out).mono ?_
  rintro e w3 ⟨rfl, hb⟩
  have HB4 := Lib.hid (HB3.out.trans (hb.mono HB3.out.size))
  have K4 := Lib.hid (K3.out.below hb)
  clear hb
  clear K3_0 K3_1 K3_2 K3_3 K3_4 K3_5 K3_6 K3_7 K3_l
  have K4_0 : w3.cell? ⟨w.heap.size, 0, none⟩ = some (.int .i64 x.op) := K4.out.cell 0
  have K4_1 : w3.cell? ⟨w.heap.size, 1, none⟩ = some (.string x.tb) := K4.out.cell 1
  have K4_2 : w3.cell? ⟨w.heap.size, 2, none⟩ = some (.string x.nm) := K4.out.cell 2
  have K4_3 : w3.cell? ⟨w.heap.size, 3, none⟩ = some (.int .i64 x.ix) := K4.out.cell 3
  have K4_4 : w3.cell? ⟨w.heap.size, 4, none⟩ = some (.int .i64 x.v.k) := K4.out.cell 4
  have K4_5 : w3.cell? ⟨w.heap.size, 5, none⟩ = some (.int .i64 x.v.n) := K4.out.cell 5
  have K4_6 : w3.cell? ⟨w.heap.size, 6, none⟩ = some (.string x.v.s) := K4.out.cell 6
  have K4_7 : w3.cell? ⟨w.heap.size, 7, none⟩ = some (.slice x.A x.args.length x.c) := K4.out.cell 7
  have K4_l : w.heap.size < w3.heap.size := K4.out.lt
  cases f2
  case true =>
    have CV := Lib.hid (CV0.out (HV.out (by simp)).1)
    have CR := Lib.hid (CR0.out (HV.out (by simp)).2)
    clear CV0 CR0 HV
    go_wp2_with fail
    refine (CV.out _ HB4.out).mono ?_
    rintro e x1 ⟨rfl, hb⟩
    have HC1 := Lib.hid (HB4.out.trans (hb.mono HB4.out.size))
    have J1 := Lib.hid (K4.out.below hb)
    clear hb
    clear K4_0 K4_1 K4_2 K4_3 K4_4 K4_5 K4_6 K4_7 K4_l
    obtain ⟨x2, hx2⟩ : ∃ W, W = x1.alloc (.cells #[.int .i64 u.k, .int .i64 u.n, .string u.s] 23) := ⟨_, rfl⟩
    have HC2 := Lib.hid (show Below w.heap.size w x2 by rw [hx2]; exact HC1.out.alloc HC1.out.size _)
    have J2 := Lib.hid (show Blk x2 w.heap.size 26 #[.int .i64 x.op, .string x.tb, .string x.nm, .int .i64 x.ix, .int .i64 x.v.k, .int .i64 x.v.n, .string x.v.s, .slice x.A x.args.length x.c] by rw [hx2]; exact J1.out.alloc _)
    have N2 := Lib.hid (show Blk x2 x1.heap.size 23 #[.int .i64 u.k, .int .i64 u.n, .string u.s] by rw [hx2]; exact Blk.new _ _ _)
    have j0 : x1.cell? ⟨w.heap.size, 0, none⟩ = some (.int .i64 x.op) := J1.out.cell 0
    have j1 : x1.cell? ⟨w.heap.size, 1, none⟩ = some (.string x.tb) := J1.out.cell 1
    have j2 : x1.cell? ⟨w.heap.size, 2, none⟩ = some (.string x.nm) := J1.out.cell 2
    have j3 : x1.cell? ⟨w.heap.size, 3, none⟩ = some (.int .i64 x.ix) := J1.out.cell 3
    have j4 : x1.cell? ⟨w.heap.size, 4, none⟩ = some (.int .i64 x.v.k) := J1.out.cell 4
    have j5 : x1.cell? ⟨w.heap.size, 5, none⟩ = some (.int .i64 x.v.n) := J1.out.cell 5
    have j6 : x1.cell? ⟨w.heap.size, 6, none⟩ = some (.string x.v.s) := J1.out.cell 6
    have j7 : x1.cell? ⟨w.heap.size, 7, none⟩ = some (.slice x.A x.args.length x.c) := J1.out.cell 7
    have m0 : x2.cell? ⟨w.heap.size, 0, none⟩ = some (.int .i64 x.op) := J2.out.cell 0
    have m1 : x2.cell? ⟨w.heap.size, 1, none⟩ = some (.string x.tb) := J2.out.cell 1
    have m2 : x2.cell? ⟨w.heap.size, 2, none⟩ = some (.string x.nm) := J2.out.cell 2
    have m3 : x2.cell? ⟨w.heap.size, 3, none⟩ = some (.int .i64 x.ix) := J2.out.cell 3
    have m4 : x2.cell? ⟨w.heap.size, 4, none⟩ = some (.int .i64 x.v.k) := J2.out.cell 4
    have m5 : x2.cell? ⟨w.heap.size, 5, none⟩ = some (.int .i64 x.v.n) := J2.out.cell 5
    have m6 : x2.cell? ⟨w.heap.size, 6, none⟩ = some (.string x.v.s) := J2.out.cell 6
    have m7 : x2.cell? ⟨w.heap.size, 7, none⟩ = some (.slice x.A x.args.length x.c) := J2.out.cell 7
    have jl : w.heap.size < x1.heap.size := J1.out.lt
    rw [hx2] at m0 m1 m2 m3 m4 m5 m6 m7
    go_wp2_with fail
    rw [← hx2]
    clear hx2 j0 j1 j2 j3 j4 j5 j6 j7 m0 m1 m2 m3 m4 m5 m6 m7 jl
    generalize x1.heap.size = g1 at *
    refine (CR.out _ HC2.out).mono ?_
    rintro e x3 ⟨rfl, hb⟩
    have HC3 := Lib.hid (HC2.out.trans (hb.mono HC2.out.size))
    have N3 := Lib.hid (N2.out.below hb)
    clear hb HC1 HC2 J1 J2 N2
    have p0 : (x3.alloc (.cells #[.int .i64 u.k, .int .i64 u.n, .string u.s] 23)).cell? ⟨g1, 0, none⟩ = some (.int .i64 u.k) := (N3.out.alloc _).cell 0
    have p1 : (x3.alloc (.cells #[.int .i64 u.k, .int .i64 u.n, .string u.s] 23)).cell? ⟨g1, 1, none⟩ = some (.int .i64 u.n) := (N3.out.alloc _).cell 1
    have p2 : (x3.alloc (.cells #[.int .i64 u.k, .int .i64 u.n, .string u.s] 23)).cell? ⟨g1, 2, none⟩ = some (.string u.s) := (N3.out.alloc _).cell 2
    have HC4 := Lib.hid (HC3.out.alloc (o := .cells #[.int .i64 u.k, .int .i64 u.n, .string u.s] 23) HC3.out.size)
    go_wp2
    go_ret
    exact ⟨by simp, HC4.out⟩
  go_wp2_with fail
  refine (awake_any _).mono ?_
  rintro e w4 ⟨rfl, hb⟩
  have HB5 := Lib.hid (HB4.out.trans (hb.mono HB4.out.size))
  have K5 := Lib.hid (K4.out.below hb)
  clear hb
  clear K4_0 K4_1 K4_2 K4_3 K4_4 K4_5 K4_6 K4_7 K4_l
  have K5_0 : w4.cell? ⟨w.heap.size, 0, none⟩ = some (.int .i64 x.op) := K5.out.cell 0
  have K5_1 : w4.cell? ⟨w.heap.size, 1, none⟩ = some (.string x.tb) := K5.out.cell 1
  have K5_2 : w4.cell? ⟨w.heap.size, 2, none⟩ = some (.string x.nm) := K5.out.cell 2
  have K5_3 : w4.cell? ⟨w.heap.size, 3, none⟩ = some (.int .i64 x.ix) := K5.out.cell 3
  have K5_4 : w4.cell? ⟨w.heap.size, 4, none⟩ = some (.int .i64 x.v.k) := K5.out.cell 4
  have K5_5 : w4.cell? ⟨w.heap.size, 5, none⟩ = some (.int .i64 x.v.n) := K5.out.cell 5
  have K5_6 : w4.cell? ⟨w.heap.size, 6, none⟩ = some (.string x.v.s) := K5.out.cell 6
  have K5_7 : w4.cell? ⟨w.heap.size, 7, none⟩ = some (.slice x.A x.args.length x.c) := K5.out.cell 7
  have K5_l : w.heap.size < w4.heap.size := K5.out.lt
  go_wp2
  go_ret
  exact ⟨rfl, HB5.out⟩

set_option maxRecDepth 100000 in
theorem evaluateConstant_lifted (os : Os) (started : os.Started) (H : Type) (enc : TypeId × Value → H) :
    ReturnsInHanded {} Try.checked os 6 .any (Rows.evaluateConstantSpec.pre6 enc Try.prog Try.f6 Rows.evaluateConstantRow.domain false) (Rows.evaluateConstantSpec.post enc Try.prog Try.f6 false true false false) := by
  refine law_lifted (C := Try.checked) (B := 4) Try.own started (by kernel_rfl) Try.func6
    (ChangeSpec.witness6 (enc := enc) (C := Try.checked) false ⟨#[], #[.agg #[.int .i64 0, .string ⟨#[]⟩, .string ⟨#[]⟩, .int .i64 0, .int .i64 0, .int .i64 0, .string ⟨#[]⟩, .slice none 0 0], .slice none 0 0], []⟩ 8 (by kernel_rfl) (by kernel_rfl) (by kernel_rfl) (by kernel_rfl))
    Try.laidOut (by kernel_rfl) rfl rfl rfl Try.underlying4 (fun ds h => match ds, h with | [_, _], _ => rfl) ?_
  intro W base args ds ps hval hA hlt hsz
  rw [Try.params6] at hA hval hsz
  obtain ⟨v0, vs0, d0, ds0, p0, q0, hargs, rfl, rfl, h0, r0⟩ := trodAll_cons hA
  obtain ⟨v1, vs1, d1, ds1, p1, q1, rfl, rfl, rfl, h1, r1⟩ := trodAll_cons r0
  obtain ⟨rfl, rfl, rfl⟩ := trodAll_nil r1
  obtain rfl : args = #[v0, v1] := by cases args; simp_all
  obtain ⟨x0, rfl, k0⟩ := open_expr (hval 0 26 v0 rfl rfl) h0 (fun x hx => hlt x (by simp [hx])) hsz (j := 0) rfl rfl
  obtain ⟨A1, n1, c1, R1, rfl, k1, l1, g1⟩ := open_vars (hval 1 27 v1 rfl rfl) h1 (fun x hx => hlt x (by simp [hx])) hsz (j := 1) rfl rfl
  exact evaluateConstant_walk x0 A1 n1 c1 R1 W k0 k1 l1 g1

theorem evaluateConstant_over : Rows.evaluateConstantRow.holds Try.pinned (OpenSpec.ofChange Rows.evaluateConstantSpec) :=
  OpenClaim.holds_of_wide 6 Try.f6 rfl rfl rfl rfl rfl rfl rfl ⟨rfl, rfl, rfl, rfl, rfl⟩ rfl rfl rfl rfl rfl (by kernel_rfl) Try.func6 (by kernel_rfl)
    (of_decide_eq_true (by kernel_rfl)) (by unfold Func.isWrapper; first | (rw [if_pos (by decide +kernel)]; kernel_rfl) | (rw [if_neg (by decide +kernel)]; exact ⟨rfl, rfl⟩))
    (fun os started H enc _ => evaluateConstant_lifted os started H enc)

theorem evaluateConstant_proved : Rows.EvaluateConstantSaid := evaluateConstant_over
end Go.Proofs.Ytfhbffgnpedaeaa
