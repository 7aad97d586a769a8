/- The reference: whether an expression fits. -/
import Derived.Test.YtfhbffgnpedaeaaEbd
import Derived.Test.YtfhbffgnpedaeaaErk
namespace Go.Proofs.Ytfhbffgnpedaeaa
open Go.ChangeShapes Go.WideShapes Go.ChangeAt Go.RowKit Go.ChangeMaps

def fitM (L : List Va) (k : Int) (x : Ex) : Bool := decide (cntM x ≤ 40) && (decide (L.length ≤ 12) && (isC (tyM L x) k && bnB L x))
set_option maxRecDepth 100000 in
set_option maxHeartbeats 2000000 in
theorem Fits_any (L : List Va) (A0 : Option Addr) (n0 c0 : Nat) (x : Ex) (k : Int) (w : World) (h : ExAt w x) (hL : Vas w A0 n0 L) : Calls Try.prog 19 #[x.agg, .slice A0 n0 c0, .int .i64 k] w fun e w' => e = .returned (.bool (fitM L k x)) ∧ Below w.heap.size w w' := by
  have HT : TyAt L (.slice A0 n0 c0) x w := fun W hW => Type_any L A0 n0 c0 x W (h.keep hW) (hL.below hW)
  have CC := Lib.hid (fun W (hW : Below w.heap.size w W) => count_any x W (h.keep hW))
  have CI := Lib.hid (fun W (hW : Below w.heap.size w W) => is_any L _ x k W (HT.keep hW))
  have CB := Lib.hid (fun W (hW : Below w.heap.size w W) => bounded_any L A0 n0 c0 x W (h.keep hW) (hL.below hW))
  have hLl := hL.len
  obtain ⟨r, hr⟩ : ∃ r, fitM L k x = r := ⟨_, rfl⟩
  rw [hr]
  unfold fitM at hr
  obtain ⟨cn, hcn⟩ : ∃ t, cntM x = t := ⟨_, rfl⟩
  obtain ⟨is, his⟩ : ∃ t, isC (tyM L x) k = t := ⟨_, rfl⟩
  obtain ⟨bn, hbn⟩ : ∃ t, bnB L x = t := ⟨_, rfl⟩
  simp only [hcn, his, hbn, hLl] at CC CI CB hr
  clear hcn his hbn hLl HT h hL
  unfold Ex.agg at *
  by_cases h1 : cn ≤ 40
  case neg =>
    have HF := Lib.hid (show false = r by rw [← hr, decide_eq_false h1]; rfl)
    have e1 : decide (cn ≤ 40) = false := decide_eq_false h1
    clear hr CI CB h1
    obtain ⟨W0, hW0⟩ : ∃ W, W = w.alloc (.cells #[.int .i64 x.op, .string x.tb, .string x.nm, .int .i64 x.ix, .int .i64 x.v.k, .int .i64 x.v.n, .string x.v.s, .slice x.A x.args.length x.c] 26) := ⟨_, rfl⟩
    have HB1 := Lib.hid (show Below w.heap.size w W0 by rw [hW0]; exact (Below.refl _ w).alloc (Nat.le_refl _) _)
    have K1 := Lib.hid (show Blk W0 w.heap.size 26 #[.int .i64 x.op, .string x.tb, .string x.nm, .int .i64 x.ix, .int .i64 x.v.k, .int .i64 x.v.n, .string x.v.s, .slice x.A x.args.length x.c] by rw [hW0]; exact Blk.new _ _ _)
    have K1_0 : W0.cell? ⟨w.heap.size, 0, none⟩ = some (.int .i64 x.op) := K1.out.cell 0
    have K1_1 : W0.cell? ⟨w.heap.size, 1, none⟩ = some (.string x.tb) := K1.out.cell 1
    have K1_2 : W0.cell? ⟨w.heap.size, 2, none⟩ = some (.string x.nm) := K1.out.cell 2
    have K1_3 : W0.cell? ⟨w.heap.size, 3, none⟩ = some (.int .i64 x.ix) := K1.out.cell 3
    have K1_4 : W0.cell? ⟨w.heap.size, 4, none⟩ = some (.int .i64 x.v.k) := K1.out.cell 4
    have K1_5 : W0.cell? ⟨w.heap.size, 5, none⟩ = some (.int .i64 x.v.n) := K1.out.cell 5
    have K1_6 : W0.cell? ⟨w.heap.size, 6, none⟩ = some (.string x.v.s) := K1.out.cell 6
    have K1_7 : W0.cell? ⟨w.heap.size, 7, none⟩ = some (.slice x.A x.args.length x.c) := K1.out.cell 7
    have K1_l : w.heap.size < W0.heap.size := K1.out.lt
    go_enter Try.func19, Try.ntmps19
    go_upto_region 1 with fail
    rw [← hW0]
    clear hW0
    go_wp2_with fail
    refine (CC.out _ HB1.out).mono ?_
    rintro e w1 ⟨rfl, hb⟩
    have HB2 := Lib.hid (HB1.out.trans (hb.mono HB1.out.size))
    have K2 := Lib.hid (K1.out.below hb)
    clear hb
    clear K1_0 K1_1 K1_2 K1_3 K1_4 K1_5 K1_6 K1_7 K1_l
    have K2_0 : w1.cell? ⟨w.heap.size, 0, none⟩ = some (.int .i64 x.op) := K2.out.cell 0
    have K2_1 : w1.cell? ⟨w.heap.size, 1, none⟩ = some (.string x.tb) := K2.out.cell 1
    have K2_2 : w1.cell? ⟨w.heap.size, 2, none⟩ = some (.string x.nm) := K2.out.cell 2
    have K2_3 : w1.cell? ⟨w.heap.size, 3, none⟩ = some (.int .i64 x.ix) := K2.out.cell 3
    have K2_4 : w1.cell? ⟨w.heap.size, 4, none⟩ = some (.int .i64 x.v.k) := K2.out.cell 4
    have K2_5 : w1.cell? ⟨w.heap.size, 5, none⟩ = some (.int .i64 x.v.n) := K2.out.cell 5
    have K2_6 : w1.cell? ⟨w.heap.size, 6, none⟩ = some (.string x.v.s) := K2.out.cell 6
    have K2_7 : w1.cell? ⟨w.heap.size, 7, none⟩ = some (.slice x.A x.args.length x.c) := K2.out.cell 7
    have K2_l : w.heap.size < w1.heap.size := K2.out.lt
    go_wp2
    go_ret
    exact ⟨ret_bool HF.out, HB2.out⟩
  rw [decide_eq_true h1] at hr
  have e1 : decide (cn ≤ 40) = true := decide_eq_true h1
  clear h1
  obtain ⟨W0, hW0⟩ : ∃ W, W = w.alloc (.cells #[.int .i64 x.op, .string x.tb, .string x.nm, .int .i64 x.ix, .int .i64 x.v.k, .int .i64 x.v.n, .string x.v.s, .slice x.A x.args.length x.c] 26) := ⟨_, rfl⟩
  have HB1 := Lib.hid (show Below w.heap.size w W0 by rw [hW0]; exact (Below.refl _ w).alloc (Nat.le_refl _) _)
  have K1 := Lib.hid (show Blk W0 w.heap.size 26 #[.int .i64 x.op, .string x.tb, .string x.nm, .int .i64 x.ix, .int .i64 x.v.k, .int .i64 x.v.n, .string x.v.s, .slice x.A x.args.length x.c] by rw [hW0]; exact Blk.new _ _ _)
  have K1_0 : W0.cell? ⟨w.heap.size, 0, none⟩ = some (.int .i64 x.op) := K1.out.cell 0
  have K1_1 : W0.cell? ⟨w.heap.size, 1, none⟩ = some (.string x.tb) := K1.out.cell 1
  have K1_2 : W0.cell? ⟨w.heap.size, 2, none⟩ = some (.string x.nm) := K1.out.cell 2
  have K1_3 : W0.cell? ⟨w.heap.size, 3, none⟩ = some (.int .i64 x.ix) := K1.out.cell 3
  have K1_4 : W0.cell? ⟨w.heap.size, 4, none⟩ = some (.int .i64 x.v.k) := K1.out.cell 4
  have K1_5 : W0.cell? ⟨w.heap.size, 5, none⟩ = some (.int .i64 x.v.n) := K1.out.cell 5
  have K1_6 : W0.cell? ⟨w.heap.size, 6, none⟩ = some (.string x.v.s) := K1.out.cell 6
  have K1_7 : W0.cell? ⟨w.heap.size, 7, none⟩ = some (.slice x.A x.args.length x.c) := K1.out.cell 7
  have K1_l : w.heap.size < W0.heap.size := K1.out.lt
  go_enter Try.func19, Try.ntmps19
  go_upto_region 1 with fail
  rw [← hW0]
  clear hW0
  go_wp2_with fail
  refine (CC.out _ HB1.out).mono ?_
  rintro e w1 ⟨rfl, hb⟩
  have HB2 := Lib.hid (HB1.out.trans (hb.mono HB1.out.size))
  have K2 := Lib.hid (K1.out.below hb)
  clear hb
  clear K1_0 K1_1 K1_2 K1_3 K1_4 K1_5 K1_6 K1_7 K1_l
  have K2_0 : w1.cell? ⟨w.heap.size, 0, none⟩ = some (.int .i64 x.op) := K2.out.cell 0
  have K2_1 : w1.cell? ⟨w.heap.size, 1, none⟩ = some (.string x.tb) := K2.out.cell 1
  have K2_2 : w1.cell? ⟨w.heap.size, 2, none⟩ = some (.string x.nm) := K2.out.cell 2
  have K2_3 : w1.cell? ⟨w.heap.size, 3, none⟩ = some (.int .i64 x.ix) := K2.out.cell 3
  have K2_4 : w1.cell? ⟨w.heap.size, 4, none⟩ = some (.int .i64 x.v.k) := K2.out.cell 4
  have K2_5 : w1.cell? ⟨w.heap.size, 5, none⟩ = some (.int .i64 x.v.n) := K2.out.cell 5
  have K2_6 : w1.cell? ⟨w.heap.size, 6, none⟩ = some (.string x.v.s) := K2.out.cell 6
  have K2_7 : w1.cell? ⟨w.heap.size, 7, none⟩ = some (.slice x.A x.args.length x.c) := K2.out.cell 7
  have K2_l : w.heap.size < w1.heap.size := K2.out.lt
  by_cases h2 : n0 ≤ 12
  case neg =>
    have HF := Lib.hid (show false = r by rw [← hr, decide_eq_false h2]; rfl)
    have e2 : decide (n0 ≤ 12) = false := decide_eq_false h2
    have e3 : decide ((n0 : Int) ≤ 12) = false := decide_eq_false (by omega)
    have e4 : (n0 : Int) > 12 := by omega
    have e5 : n0 > 12 := by omega
    clear hr h2
    go_wp2
    go_ret
    exact ⟨ret_bool HF.out, HB2.out⟩
  rw [decide_eq_true h2] at hr
  have e2 : decide (n0 ≤ 12) = true := decide_eq_true h2
  have e3 : decide ((n0 : Int) ≤ 12) = true := decide_eq_true (by omega)
  have e4 : (n0 : Int) ≤ 12 := by omega
  have HR := Lib.hid hr
  clear h2 hr
  go_wp2_with fail
  refine (CI.out _ HB2.out).mono ?_
  rintro e w2 ⟨rfl, hb⟩
  have HB3 := Lib.hid (HB2.out.trans (hb.mono HB2.out.size))
  have K3 := Lib.hid (K2.out.below hb)
  clear hb
  clear K2_0 K2_1 K2_2 K2_3 K2_4 K2_5 K2_6 K2_7 K2_l
  have K3_0 : w2.cell? ⟨w.heap.size, 0, none⟩ = some (.int .i64 x.op) := K3.out.cell 0
  have K3_1 : w2.cell? ⟨w.heap.size, 1, none⟩ = some (.string x.tb) := K3.out.cell 1
  have K3_2 : w2.cell? ⟨w.heap.size, 2, none⟩ = some (.string x.nm) := K3.out.cell 2
  have K3_3 : w2.cell? ⟨w.heap.size, 3, none⟩ = some (.int .i64 x.ix) := K3.out.cell 3
  have K3_4 : w2.cell? ⟨w.heap.size, 4, none⟩ = some (.int .i64 x.v.k) := K3.out.cell 4
  have K3_5 : w2.cell? ⟨w.heap.size, 5, none⟩ = some (.int .i64 x.v.n) := K3.out.cell 5
  have K3_6 : w2.cell? ⟨w.heap.size, 6, none⟩ = some (.string x.v.s) := K3.out.cell 6
  have K3_7 : w2.cell? ⟨w.heap.size, 7, none⟩ = some (.slice x.A x.args.length x.c) := K3.out.cell 7
  have K3_l : w.heap.size < w2.heap.size := K3.out.lt
  cases is
  case false =>
    have HF := Lib.hid (show false = r by rw [← HR.out]; simp)
    go_wp2
    go_ret
    exact ⟨ret_bool HF.out, HB3.out⟩
  go_wp2_with fail
  refine (CB.out _ HB3.out).mono ?_
  rintro e w3 ⟨rfl, hb⟩
  have HB4 := Lib.hid (HB3.out.trans (hb.mono HB3.out.size))
  have K4 := Lib.hid (K3.out.below hb)
  clear hb
  clear K3_0 K3_1 K3_2 K3_3 K3_4 K3_5 K3_6 K3_7 K3_l
  have K4_0 : w3.cell? ⟨w.heap.size, 0, none⟩ = some (.int .i64 x.op) := K4.out.cell 0
  have K4_1 : w3.cell? ⟨w.heap.size, 1, none⟩ = some (.string x.tb) := K4.out.cell 1
  have K4_2 : w3.cell? ⟨w.heap.size, 2, none⟩ = some (.string x.nm) := K4.out.cell 2
  have K4_3 : w3.cell? ⟨w.heap.size, 3, none⟩ = some (.int .i64 x.ix) := K4.out.cell 3
  have K4_4 : w3.cell? ⟨w.heap.size, 4, none⟩ = some (.int .i64 x.v.k) := K4.out.cell 4
  have K4_5 : w3.cell? ⟨w.heap.size, 5, none⟩ = some (.int .i64 x.v.n) := K4.out.cell 5
  have K4_6 : w3.cell? ⟨w.heap.size, 6, none⟩ = some (.string x.v.s) := K4.out.cell 6
  have K4_7 : w3.cell? ⟨w.heap.size, 7, none⟩ = some (.slice x.A x.args.length x.c) := K4.out.cell 7
  have K4_l : w.heap.size < w3.heap.size := K4.out.lt
  have HF := Lib.hid (show bn = r by rw [← HR.out]; rfl)
  go_wp2
  go_ret
  exact ⟨ret_bool HF.out, HB4.out⟩
end Go.Proofs.Ytfhbffgnpedaeaa
