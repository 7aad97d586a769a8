/- The reference: the types of literals, columns, signs; what has none. -/
import Derived.Test.YtfhbffgnpedaeaaEru
import Derived.BigRegion
import Derived.Deep.Cut
namespace Go.Proofs.Ytfhbffgnpedaeaa
open Go.ChangeShapes Go.WideShapes Go.ChangeAt Go.RowKit Go.ChangeMaps

set_option maxRecDepth 100000 in
set_option maxHeartbeats 4000000 in
theorem ty1_any (L : List Va) (V : Value) (x : Ex) (h1 : x.op = 1) (w : World) (h : ExAt w x) : Calls Try.prog 52 #[x.agg, V] w fun e w' => e = .returned (.int .i64 (if 0 < x.args.length then -1 else litM x.v)) ∧ Below w.heap.size w w' := by
  have CL := Lib.hid (fun W => literal_any x.v W (by have := h.val.2.2.2.2; omega))
  unfold V3.agg at CL
  unfold Ex.agg at *
  rw [h1]
  obtain ⟨r, hr⟩ : ∃ r, litM x.v = r := ⟨_, rfl⟩
  simp only [hr] at CL ⊢
  clear hr h1 h
  obtain ⟨q, hq⟩ : ∃ q, (if 0 < x.args.length then -1 else r) = q := ⟨_, rfl⟩
  rw [hq]
  have HQ := Lib.hid hq
  clear hq
  obtain ⟨W0, hW0⟩ : ∃ W, W = w.alloc (.cells #[.int .i64 1, .string x.tb, .string x.nm, .int .i64 x.ix, .int .i64 x.v.k, .int .i64 x.v.n, .string x.v.s, .slice x.A x.args.length x.c] 26) := ⟨_, rfl⟩
  have HB := Lib.hid (show Below w.heap.size w W0 by rw [hW0]; exact (Below.refl _ w).alloc (Nat.le_refl _) _)
  have K2 := Lib.hid (show Blk W0 w.heap.size 26 #[.int .i64 1, .string x.tb, .string x.nm, .int .i64 x.ix, .int .i64 x.v.k, .int .i64 x.v.n, .string x.v.s, .slice x.A x.args.length x.c] by rw [hW0]; exact Blk.new _ _ _)
  have hl0 : w.heap.size < W0.heap.size := K2.out.lt
  have k0 : W0.cell? ⟨w.heap.size, 0, none⟩ = some (.int .i64 1) := K2.out.cell 0
  have k1 : W0.cell? ⟨w.heap.size, 1, none⟩ = some (.string x.tb) := K2.out.cell 1
  have k2 : W0.cell? ⟨w.heap.size, 2, none⟩ = some (.string x.nm) := K2.out.cell 2
  have k3 : W0.cell? ⟨w.heap.size, 3, none⟩ = some (.int .i64 x.ix) := K2.out.cell 3
  have k4 : W0.cell? ⟨w.heap.size, 4, none⟩ = some (.int .i64 x.v.k) := K2.out.cell 4
  have k5 : W0.cell? ⟨w.heap.size, 5, none⟩ = some (.int .i64 x.v.n) := K2.out.cell 5
  have k6 : W0.cell? ⟨w.heap.size, 6, none⟩ = some (.string x.v.s) := K2.out.cell 6
  have k7 : W0.cell? ⟨w.heap.size, 7, none⟩ = some (.slice x.A x.args.length x.c) := K2.out.cell 7
  by_cases hn : 0 < x.args.length
  · have HF := Lib.hid (show (-1 : Int) = q by rw [← HQ.out, if_pos hn])
    have hni : decide (0 < x.args.length) = true := by simpa using hn
    clear CL hn
    go_enter Try.func52, Try.ntmps52
    go_upto_region 1 with fail
    rw [← hW0]
    clear hW0
    go_wp2
    go_ret
    exact ⟨ret_int HF.out, HB.out⟩
  · have HF := Lib.hid (show r = q by rw [← HQ.out, if_neg hn])
    have hni : decide (0 < x.args.length) = false := by rw [decide_eq_false hn]
    clear hn
    go_enter Try.func52, Try.ntmps52
    go_upto_region 1 with fail
    rw [← hW0]
    clear hW0
    go_wp2_with fail
    refine (CL.out _).mono ?_
    rintro e w1 ⟨rfl, hb⟩
    have HB2 := Lib.hid (HB.out.trans (hb.mono HB.out.size))
    clear hb
    go_wp2
    go_ret
    exact ⟨ret_int HF.out, HB2.out⟩
def Vas (w : World) (A : Option Addr) (n : Nat) (L : List Va) : Prop := At w A n 5 (L.flatMap Va.cells)
theorem Vas.len {w : World} {A : Option Addr} {n : Nat} {L : List Va} (h : Vas w A n L) : L.length = n := by
  have h1 := h.1
  rw [flat_len Va.cells 5 (fun _ => rfl)] at h1
  omega
theorem Vas.below {w w' : World} {A : Option Addr} {n : Nat} {L : List Va} (h : Vas w A n L) (hb : Below w.heap.size w w') : Vas w' A n L := At.below h hb
theorem Vas.at {w : World} {A : Option Addr} {n : Nat} {L : List Va} (h : Vas w A n L) (hn : 0 < n) : ∃ b off, A = some ⟨b, off, none⟩ ∧ b < w.heap.size ∧ ∀ (W : World), Below w.heap.size w W → ∀ i (hi : i < L.length), W.cell? ⟨b, off + i * 5, none⟩ = some (.int .i64 L[i].ty) := by
  obtain ⟨b, off, e, hb, hc⟩ := h.2 hn
  refine ⟨b, off, e, hb, fun W hW i hi => ?_⟩
  have := keepcell hW (hc _ _ ((flat_get Va.cells 5 (fun _ => rfl) L i 0 hi (by decide)).trans rfl))
  exact this
set_option maxRecDepth 100000 in
set_option maxHeartbeats 4000000 in
theorem ty2_any (L : List Va) (A : Option Addr) (n c : Nat) (x : Ex) (h2 : x.op = 2) (w : World) (h : ExAt w x) (hL : Vas w A n L) : Calls Try.prog 52 #[x.agg, .slice A n c] w fun e w' => e = .returned (.int .i64 (colT L x.args.length x.ix)) ∧ Below w.heap.size w w' := by
  have hLl := hL.len
  obtain ⟨ix, hix⟩ : ∃ i, x.ix = i := ⟨_, rfl⟩
  unfold Ex.agg
  rw [h2, hix]
  clear h2 hix h
  obtain ⟨W0, hW0⟩ : ∃ W, W = w.alloc (.cells #[.int .i64 2, .string x.tb, .string x.nm, .int .i64 ix, .int .i64 x.v.k, .int .i64 x.v.n, .string x.v.s, .slice x.A x.args.length x.c] 26) := ⟨_, rfl⟩
  have HB := Lib.hid (show Below w.heap.size w W0 by rw [hW0]; exact (Below.refl _ w).alloc (Nat.le_refl _) _)
  have K2 := Lib.hid (show Blk W0 w.heap.size 26 #[.int .i64 2, .string x.tb, .string x.nm, .int .i64 ix, .int .i64 x.v.k, .int .i64 x.v.n, .string x.v.s, .slice x.A x.args.length x.c] by rw [hW0]; exact Blk.new _ _ _)
  have hl0 : w.heap.size < W0.heap.size := K2.out.lt
  have k0 : W0.cell? ⟨w.heap.size, 0, none⟩ = some (.int .i64 2) := K2.out.cell 0
  have k1 : W0.cell? ⟨w.heap.size, 1, none⟩ = some (.string x.tb) := K2.out.cell 1
  have k2 : W0.cell? ⟨w.heap.size, 2, none⟩ = some (.string x.nm) := K2.out.cell 2
  have k3 : W0.cell? ⟨w.heap.size, 3, none⟩ = some (.int .i64 ix) := K2.out.cell 3
  have k4 : W0.cell? ⟨w.heap.size, 4, none⟩ = some (.int .i64 x.v.k) := K2.out.cell 4
  have k5 : W0.cell? ⟨w.heap.size, 5, none⟩ = some (.int .i64 x.v.n) := K2.out.cell 5
  have k6 : W0.cell? ⟨w.heap.size, 6, none⟩ = some (.string x.v.s) := K2.out.cell 6
  have k7 : W0.cell? ⟨w.heap.size, 7, none⟩ = some (.slice x.A x.args.length x.c) := K2.out.cell 7
  obtain ⟨q, hq⟩ : ∃ q, colT L x.args.length ix = q := ⟨_, rfl⟩
  rw [hq]
  have HQ := Lib.hid hq
  clear hq
  by_cases hn : 0 < x.args.length
  · have HF := Lib.hid (show (-1 : Int) = q by rw [← HQ.out]; unfold colT; rw [if_pos hn])
    have hni : decide (0 < x.args.length) = true := by simpa using hn
    clear hL hLl hn
    go_enter Try.func52, Try.ntmps52
    go_upto_region 1 with fail
    rw [← hW0]
    clear hW0
    go_wp2
    go_ret
    exact ⟨ret_int HF.out, HB.out⟩
  have hni : decide (0 < x.args.length) = false := by rw [decide_eq_false hn]
  by_cases h0 : ix < 0
  · have HF := Lib.hid (show (-1 : Int) = q by rw [← HQ.out]; unfold colT; rw [if_neg hn, if_pos h0])
    clear hL hLl hn
    go_enter Try.func52, Try.ntmps52
    go_upto_region 1 with fail
    rw [← hW0]
    clear hW0
    go_wp2
    go_ret
    exact ⟨ret_int HF.out, HB.out⟩
  by_cases h1 : (n : Int) ≤ ix
  · have HF := Lib.hid (show (-1 : Int) = q by rw [← HQ.out]; unfold colT; rw [if_neg hn, if_neg h0, List.getElem?_eq_none (by omega)])
    have h1n : ¬ ix < (n : Int) := by omega
    clear hL hLl hn
    go_enter Try.func52, Try.ntmps52
    go_upto_region 1 with fail
    rw [← hW0]
    clear hW0
    go_wp2
    go_ret
    exact ⟨ret_int HF.out, HB.out⟩
  obtain ⟨i, rfl⟩ : ∃ i : Nat, ix = (i : Int) := ⟨ix.toNat, by omega⟩
  have hiL : i < L.length := by omega
  obtain ⟨y, hy⟩ : ∃ y, L[i].ty = y := ⟨_, rfl⟩
  have HE := Lib.hid (show q = if y < 1 then -1 else if y > 2 then -1 else y by rw [← HQ.out]; unfold colT; rw [if_neg hn, if_neg h0, show ((i : Int)).toNat = i from rfl, List.getElem?_eq_getElem hiL]; simp only [hy])
  obtain ⟨b, off, rfl, hbl, hc⟩ := hL.at (by omega)
  have c0 := hc _ HB.out i hiL
  rw [hy] at c0
  have hbw : b < W0.heap.size := by omega
  have hin : i < n := by omega
  have hini : (i : Int) < n := by omega
  clear hc hL hy hLl hiL hn
  by_cases g1 : y < 1
  · have HF := Lib.hid (show (-1 : Int) = q by rw [HE.out, if_pos g1])
    go_enter Try.func52, Try.ntmps52
    go_upto_region 1 with fail
    rw [← hW0]
    clear hW0
    go_wp2
    go_ret
    exact ⟨ret_int HF.out, HB.out⟩
  by_cases g2 : 2 < y
  · have HF := Lib.hid (show (-1 : Int) = q by rw [HE.out, if_neg g1, if_pos g2])
    go_enter Try.func52, Try.ntmps52
    go_upto_region 1 with fail
    rw [← hW0]
    clear hW0
    go_wp2
    go_ret
    exact ⟨ret_int HF.out, HB.out⟩
  have HF := Lib.hid (show y = q by rw [HE.out, if_neg g1, if_neg g2])
  go_enter Try.func52, Try.ntmps52
  go_upto_region 1 with fail
  rw [← hW0]
  clear hW0
  go_wp2
  go_ret
  exact ⟨ret_int HF.out, HB.out⟩
set_option maxRecDepth 100000 in
set_option maxHeartbeats 4000000 in
theorem tyu_any (L : List Va) (V : Value) (x : Ex) (hop : x.op = 3 ∨ x.op = 9 ∨ x.op = 17 ∨ x.op = 20) (w : World) (h : ExAt w x) (HT : ∀ y ∈ x.args, TyAt L V y w) : Calls Try.prog 52 #[x.agg, V] w fun e w' => e = .returned (.int .i64 (match x.args.map (tyM L) with | [s] => unT x.op s | _ => -1)) ∧ Below w.heap.size w w' := by
  obtain ⟨op, ho⟩ : ∃ op, x.op = op := ⟨_, rfl⟩
  obtain ⟨r, hr⟩ : ∃ r, (match x.args.map (tyM L) with | [s] => unT x.op s | _ => -1) = r := ⟨_, rfl⟩
  have CU0 : (∀ W, Below w.heap.size w W → Calls Try.prog 56 #[x.agg, V] W fun e w' => e = .returned (.int .i64 r) ∧ Below W.heap.size W w') := (fun W hW => by rw [← hr]; exact runary_any L V x W (h.keep hW) (fun y hy => (HT y hy).keep hW))
  have CU := Lib.hid CU0
  clear CU0
  rw [hr]
  unfold Ex.agg at *
  rw [ho] at CU hop ⊢
  clear ho hr h HT
  rcases hop with rfl | rfl | rfl | rfl
  · obtain ⟨W0, hW0⟩ : ∃ W, W = w.alloc (.cells #[.int .i64 3, .string x.tb, .string x.nm, .int .i64 x.ix, .int .i64 x.v.k, .int .i64 x.v.n, .string x.v.s, .slice x.A x.args.length x.c] 26) := ⟨_, rfl⟩
    have HB := Lib.hid (show Below w.heap.size w W0 by rw [hW0]; exact (Below.refl _ w).alloc (Nat.le_refl _) _)
    have K2 := Lib.hid (show Blk W0 w.heap.size 26 #[.int .i64 3, .string x.tb, .string x.nm, .int .i64 x.ix, .int .i64 x.v.k, .int .i64 x.v.n, .string x.v.s, .slice x.A x.args.length x.c] by rw [hW0]; exact Blk.new _ _ _)
    have hl0 : w.heap.size < W0.heap.size := K2.out.lt
    have k0 : W0.cell? ⟨w.heap.size, 0, none⟩ = some (.int .i64 3) := K2.out.cell 0
    have k1 : W0.cell? ⟨w.heap.size, 1, none⟩ = some (.string x.tb) := K2.out.cell 1
    have k2 : W0.cell? ⟨w.heap.size, 2, none⟩ = some (.string x.nm) := K2.out.cell 2
    have k3 : W0.cell? ⟨w.heap.size, 3, none⟩ = some (.int .i64 x.ix) := K2.out.cell 3
    have k4 : W0.cell? ⟨w.heap.size, 4, none⟩ = some (.int .i64 x.v.k) := K2.out.cell 4
    have k5 : W0.cell? ⟨w.heap.size, 5, none⟩ = some (.int .i64 x.v.n) := K2.out.cell 5
    have k6 : W0.cell? ⟨w.heap.size, 6, none⟩ = some (.string x.v.s) := K2.out.cell 6
    have k7 : W0.cell? ⟨w.heap.size, 7, none⟩ = some (.slice x.A x.args.length x.c) := K2.out.cell 7
    go_enter Try.func52, Try.ntmps52
    go_upto_region 1 with fail
    rw [← hW0]
    clear hW0
    go_wp2_with fail
    refine (CU.out _ HB.out).mono ?_
    rintro e w1 ⟨rfl, hb⟩
    have HB2 := Lib.hid (HB.out.trans (hb.mono HB.out.size))
    clear hb
    go_wp2
    go_ret
    exact ⟨rfl, HB2.out⟩


  · obtain ⟨W0, hW0⟩ : ∃ W, W = w.alloc (.cells #[.int .i64 9, .string x.tb, .string x.nm, .int .i64 x.ix, .int .i64 x.v.k, .int .i64 x.v.n, .string x.v.s, .slice x.A x.args.length x.c] 26) := ⟨_, rfl⟩
    have HB := Lib.hid (show Below w.heap.size w W0 by rw [hW0]; exact (Below.refl _ w).alloc (Nat.le_refl _) _)
    have K2 := Lib.hid (show Blk W0 w.heap.size 26 #[.int .i64 9, .string x.tb, .string x.nm, .int .i64 x.ix, .int .i64 x.v.k, .int .i64 x.v.n, .string x.v.s, .slice x.A x.args.length x.c] by rw [hW0]; exact Blk.new _ _ _)
    have hl0 : w.heap.size < W0.heap.size := K2.out.lt
    have k0 : W0.cell? ⟨w.heap.size, 0, none⟩ = some (.int .i64 9) := K2.out.cell 0
    have k1 : W0.cell? ⟨w.heap.size, 1, none⟩ = some (.string x.tb) := K2.out.cell 1
    have k2 : W0.cell? ⟨w.heap.size, 2, none⟩ = some (.string x.nm) := K2.out.cell 2
    have k3 : W0.cell? ⟨w.heap.size, 3, none⟩ = some (.int .i64 x.ix) := K2.out.cell 3
    have k4 : W0.cell? ⟨w.heap.size, 4, none⟩ = some (.int .i64 x.v.k) := K2.out.cell 4
    have k5 : W0.cell? ⟨w.heap.size, 5, none⟩ = some (.int .i64 x.v.n) := K2.out.cell 5
    have k6 : W0.cell? ⟨w.heap.size, 6, none⟩ = some (.string x.v.s) := K2.out.cell 6
    have k7 : W0.cell? ⟨w.heap.size, 7, none⟩ = some (.slice x.A x.args.length x.c) := K2.out.cell 7
    go_enter Try.func52, Try.ntmps52
    go_upto_region 1 with fail
    rw [← hW0]
    clear hW0
    go_wp2_with fail
    refine (CU.out _ HB.out).mono ?_
    rintro e w1 ⟨rfl, hb⟩
    have HB2 := Lib.hid (HB.out.trans (hb.mono HB.out.size))
    clear hb
    go_wp2
    go_ret
    exact ⟨rfl, HB2.out⟩


  · obtain ⟨W0, hW0⟩ : ∃ W, W = w.alloc (.cells #[.int .i64 17, .string x.tb, .string x.nm, .int .i64 x.ix, .int .i64 x.v.k, .int .i64 x.v.n, .string x.v.s, .slice x.A x.args.length x.c] 26) := ⟨_, rfl⟩
    have HB := Lib.hid (show Below w.heap.size w W0 by rw [hW0]; exact (Below.refl _ w).alloc (Nat.le_refl _) _)
    have K2 := Lib.hid (show Blk W0 w.heap.size 26 #[.int .i64 17, .string x.tb, .string x.nm, .int .i64 x.ix, .int .i64 x.v.k, .int .i64 x.v.n, .string x.v.s, .slice x.A x.args.length x.c] by rw [hW0]; exact Blk.new _ _ _)
    have hl0 : w.heap.size < W0.heap.size := K2.out.lt
    have k0 : W0.cell? ⟨w.heap.size, 0, none⟩ = some (.int .i64 17) := K2.out.cell 0
    have k1 : W0.cell? ⟨w.heap.size, 1, none⟩ = some (.string x.tb) := K2.out.cell 1
    have k2 : W0.cell? ⟨w.heap.size, 2, none⟩ = some (.string x.nm) := K2.out.cell 2
    have k3 : W0.cell? ⟨w.heap.size, 3, none⟩ = some (.int .i64 x.ix) := K2.out.cell 3
    have k4 : W0.cell? ⟨w.heap.size, 4, none⟩ = some (.int .i64 x.v.k) := K2.out.cell 4
    have k5 : W0.cell? ⟨w.heap.size, 5, none⟩ = some (.int .i64 x.v.n) := K2.out.cell 5
    have k6 : W0.cell? ⟨w.heap.size, 6, none⟩ = some (.string x.v.s) := K2.out.cell 6
    have k7 : W0.cell? ⟨w.heap.size, 7, none⟩ = some (.slice x.A x.args.length x.c) := K2.out.cell 7
    go_enter Try.func52, Try.ntmps52
    go_upto_region 1 with fail
    rw [← hW0]
    clear hW0
    go_wp2_with fail
    refine (CU.out _ HB.out).mono ?_
    rintro e w1 ⟨rfl, hb⟩
    have HB2 := Lib.hid (HB.out.trans (hb.mono HB.out.size))
    clear hb
    go_wp2
    go_ret
    exact ⟨rfl, HB2.out⟩


  · obtain ⟨W0, hW0⟩ : ∃ W, W = w.alloc (.cells #[.int .i64 20, .string x.tb, .string x.nm, .int .i64 x.ix, .int .i64 x.v.k, .int .i64 x.v.n, .string x.v.s, .slice x.A x.args.length x.c] 26) := ⟨_, rfl⟩
    have HB := Lib.hid (show Below w.heap.size w W0 by rw [hW0]; exact (Below.refl _ w).alloc (Nat.le_refl _) _)
    have K2 := Lib.hid (show Blk W0 w.heap.size 26 #[.int .i64 20, .string x.tb, .string x.nm, .int .i64 x.ix, .int .i64 x.v.k, .int .i64 x.v.n, .string x.v.s, .slice x.A x.args.length x.c] by rw [hW0]; exact Blk.new _ _ _)
    have hl0 : w.heap.size < W0.heap.size := K2.out.lt
    have k0 : W0.cell? ⟨w.heap.size, 0, none⟩ = some (.int .i64 20) := K2.out.cell 0
    have k1 : W0.cell? ⟨w.heap.size, 1, none⟩ = some (.string x.tb) := K2.out.cell 1
    have k2 : W0.cell? ⟨w.heap.size, 2, none⟩ = some (.string x.nm) := K2.out.cell 2
    have k3 : W0.cell? ⟨w.heap.size, 3, none⟩ = some (.int .i64 x.ix) := K2.out.cell 3
    have k4 : W0.cell? ⟨w.heap.size, 4, none⟩ = some (.int .i64 x.v.k) := K2.out.cell 4
    have k5 : W0.cell? ⟨w.heap.size, 5, none⟩ = some (.int .i64 x.v.n) := K2.out.cell 5
    have k6 : W0.cell? ⟨w.heap.size, 6, none⟩ = some (.string x.v.s) := K2.out.cell 6
    have k7 : W0.cell? ⟨w.heap.size, 7, none⟩ = some (.slice x.A x.args.length x.c) := K2.out.cell 7
    go_enter Try.func52, Try.ntmps52
    go_upto_region 1 with fail
    rw [← hW0]
    clear hW0
    go_wp2_with fail
    refine (CU.out _ HB.out).mono ?_
    rintro e w1 ⟨rfl, hb⟩
    have HB2 := Lib.hid (HB.out.trans (hb.mono HB.out.size))
    clear hb
    go_wp2
    go_ret
    exact ⟨rfl, HB2.out⟩
set_option maxRecDepth 100000 in
set_option maxHeartbeats 4000000 in
theorem tyb_any (L : List Va) (V : Value) (x : Ex) (f1 : (x.op == 1) = false) (f2 : (x.op == 2) = false) (f3 : (x.op == 3) = false) (f9 : (x.op == 9) = false) (f17 : (x.op == 17) = false) (f20 : (x.op == 20) = false) (hl : x.args.length ≠ 2) (w : World) (h : ExAt w x) : Calls Try.prog 52 #[x.agg, V] w fun e w' => e = .returned (.int .i64 (-1)) ∧ Below w.heap.size w w' := by
  obtain ⟨op, ho⟩ : ∃ op, x.op = op := ⟨_, rfl⟩
  have e1 : ((x.args.length : Int) == 2) = false := by simp; omega
  have e2 : ((x.args.length : Int) != 2) = true := by simp; omega
  unfold Ex.agg
  rw [ho] at f1 f2 f3 f9 f17 f20 ⊢
  clear ho h hl
  obtain ⟨W0, hW0⟩ : ∃ W, W = w.alloc (.cells #[.int .i64 op, .string x.tb, .string x.nm, .int .i64 x.ix, .int .i64 x.v.k, .int .i64 x.v.n, .string x.v.s, .slice x.A x.args.length x.c] 26) := ⟨_, rfl⟩
  have HB := Lib.hid (show Below w.heap.size w W0 by rw [hW0]; exact (Below.refl _ w).alloc (Nat.le_refl _) _)
  have K2 := Lib.hid (show Blk W0 w.heap.size 26 #[.int .i64 op, .string x.tb, .string x.nm, .int .i64 x.ix, .int .i64 x.v.k, .int .i64 x.v.n, .string x.v.s, .slice x.A x.args.length x.c] by rw [hW0]; exact Blk.new _ _ _)
  have hl0 : w.heap.size < W0.heap.size := K2.out.lt
  have k0 : W0.cell? ⟨w.heap.size, 0, none⟩ = some (.int .i64 op) := K2.out.cell 0
  have k1 : W0.cell? ⟨w.heap.size, 1, none⟩ = some (.string x.tb) := K2.out.cell 1
  have k2 : W0.cell? ⟨w.heap.size, 2, none⟩ = some (.string x.nm) := K2.out.cell 2
  have k3 : W0.cell? ⟨w.heap.size, 3, none⟩ = some (.int .i64 x.ix) := K2.out.cell 3
  have k4 : W0.cell? ⟨w.heap.size, 4, none⟩ = some (.int .i64 x.v.k) := K2.out.cell 4
  have k5 : W0.cell? ⟨w.heap.size, 5, none⟩ = some (.int .i64 x.v.n) := K2.out.cell 5
  have k6 : W0.cell? ⟨w.heap.size, 6, none⟩ = some (.string x.v.s) := K2.out.cell 6
  have k7 : W0.cell? ⟨w.heap.size, 7, none⟩ = some (.slice x.A x.args.length x.c) := K2.out.cell 7
  go_enter Try.func52, Try.ntmps52
  go_upto_region 1 with fail
  rw [← hW0]
  clear hW0
  go_wp2
  go_ret
  exact ⟨rfl, HB.out⟩
end Go.Proofs.Ytfhbffgnpedaeaa
