/- The reference: the types of expressions with two operands. -/
import Derived.Test.YtfhbffgnpedaeaaEru
import Derived.Test.YtfhbffgnpedaeaaErf
import Derived.BigRegion
import Derived.Deep.Cut
namespace Go.Proofs.Ytfhbffgnpedaeaa
open Go.ChangeShapes Go.WideShapes Go.ChangeAt Go.RowKit Go.ChangeMaps

set_option maxRecDepth 100000 in
set_option maxHeartbeats 4000000 in
theorem ty2_11 (L : List Va) (V : Value) (x a b : Ex) (hargs : x.args = [a, b]) (hop : x.op = 11) (w : World) (h : ExAt w x) (Ha : TyAt L V a w) (Hb : TyAt L V b w) : Calls Try.prog 52 #[x.agg, V] w fun e w' => e = .returned (.int .i64 (biT 11 a b (tyM L a) (tyM L b))) ∧ Below w.heap.size w w' := by
  have I1a := Lib.hid (fun W (hW : Below w.heap.size w W) => is_any L V a 1 W (Ha.keep hW))
  have I1b := Lib.hid (fun W (hW : Below w.heap.size w W) => is_any L V b 1 W (Hb.keep hW))
  have I2a := Lib.hid (fun W (hW : Below w.heap.size w W) => is_any L V a 2 W (Ha.keep hW))
  have I2b := Lib.hid (fun W (hW : Below w.heap.size w W) => is_any L V b 2 W (Hb.keep hW))
  have hx0 : 0 < x.args.length := by rw [hargs]; exact Nat.zero_lt_succ _
  have hx1 : 1 < x.args.length := by rw [hargs]; exact Nat.lt_succ_self _
  have hx1i : (1 : Int) < (x.args.length : Int) := by omega
  have e1 : ((x.args.length : Int) == 2) = true := by rw [hargs]; rfl
  have e2 : ((x.args.length : Int) != 2) = false := by rw [hargs]; rfl
  obtain ⟨b0, off, hA, hbl, hc⟩ := h.at' hx0
  have HC := Lib.hid (fun W hW => hc W hW 0 a (by rw [hargs]; rfl))
  have HD := Lib.hid (fun W hW => hc W hW 1 b (by rw [hargs]; rfl))
  simp only [Nat.zero_mul, Nat.add_zero, Nat.one_mul, Nat.add_assoc, Nat.reduceAdd] at HC HD
  unfold TyAt at Ha Hb
  obtain ⟨s, hs⟩ : ∃ u, tyM L a = u := ⟨_, rfl⟩
  obtain ⟨t, ht⟩ : ∃ u, tyM L b = u := ⟨_, rfl⟩
  simp only [hs, ht] at I1a I1b I2a I2b ⊢
  obtain ⟨i1a, hi1a⟩ : ∃ u, isC s 1 = u := ⟨_, rfl⟩
  obtain ⟨i1b, hi1b⟩ : ∃ u, isC t 1 = u := ⟨_, rfl⟩
  obtain ⟨i2a, hi2a⟩ : ∃ u, isC s 2 = u := ⟨_, rfl⟩
  obtain ⟨i2b, hi2b⟩ : ∃ u, isC t 2 = u := ⟨_, rfl⟩
  obtain ⟨r, hr⟩ : ∃ r, biT 11 a b s t = r := ⟨_, rfl⟩
  rw [hr]
  have hr1 : biT 11 a b s t = r := hr
  unfold biT at hr1
  rw [if_neg (by decide), if_pos (by decide)] at hr1
  simp only [hi1a, hi1b, hi2a, hi2b] at hr1 I1a I1b I2a I2b
  have HR := Lib.hid (show (if ((i1a && i1b) || (i2a && i2b)) = true then 3 else -1) = r from hr1)
  unfold Ex.agg at *
  rw [hop, hA]
  have hbw : b0 < w.heap.size := hbl
  clear hr hr1 hc hbl hi1a hi1b hi2a hi2b hs ht h hargs hop hA Ha Hb
  obtain ⟨W0, hW0⟩ : ∃ W, W = w.alloc (.cells #[.int .i64 11, .string x.tb, .string x.nm, .int .i64 x.ix, .int .i64 x.v.k, .int .i64 x.v.n, .string x.v.s, .slice (some ⟨b0, off, none⟩) x.args.length x.c] 26) := ⟨_, rfl⟩
  have HB := Lib.hid (show Below w.heap.size w W0 by rw [hW0]; exact (Below.refl _ w).alloc (Nat.le_refl _) _)
  have K2 := Lib.hid (show Blk W0 w.heap.size 26 #[.int .i64 11, .string x.tb, .string x.nm, .int .i64 x.ix, .int .i64 x.v.k, .int .i64 x.v.n, .string x.v.s, .slice (some ⟨b0, off, none⟩) x.args.length x.c] by rw [hW0]; exact Blk.new _ _ _)
  have hl0 : w.heap.size < W0.heap.size := K2.out.lt
  have hb1 : b0 < W0.heap.size := by omega
  obtain ⟨c0, c1, c2, c3, c4, c5, c6, c7⟩ := HC.out _ HB.out
  obtain ⟨d0, d1, d2, d3, d4, d5, d6, d7⟩ := HD.out _ HB.out
  have k0 : W0.cell? ⟨w.heap.size, 0, none⟩ = some (.int .i64 11) := K2.out.cell 0
  have k7 : W0.cell? ⟨w.heap.size, 7, none⟩ = some (.slice (some ⟨b0, off, none⟩) x.args.length x.c) := K2.out.cell 7
  go_enter Try.func52, Try.ntmps52
  go_upto_region 1 with fail
  rw [← hW0]
  clear hW0
  go_upto_region 17 with fail
  go_cut [5, 6] from 7 (fun s5 s6 wx => ∃ g5 g6 : Nat, s5 = .pointer (some ⟨g5, 0, none⟩) ∧ s6 = .pointer (some ⟨g6, 0, none⟩) ∧ Blk wx g5 26 #[.int .i64 a.op, .string a.tb, .string a.nm, .int .i64 a.ix, .int .i64 a.v.k, .int .i64 a.v.n, .string a.v.s, .slice a.A a.args.length a.c] ∧ Blk wx g6 26 #[.int .i64 b.op, .string b.tb, .string b.nm, .int .i64 b.ix, .int .i64 b.v.k, .int .i64 b.v.n, .string b.v.s, .slice b.A b.args.length b.c] ∧ Below W0.heap.size W0 wx)
  case first =>
    go_region
    · go_wp2_with fail
      go_meet
      case rel => exact ⟨_, _, rfl, rfl, ((Blk.new _ _ _).alloc _).drew, (Blk.new_ (by simp) rfl : Blk ((W0.alloc _).alloc _) _ _ _).drew, below_drew (((Below.refl _ W0).alloc (Nat.le_refl _) _).alloc (by simp) _)⟩
    · go_wp2_with fail
      go_meet
      case rel => exact ⟨_, _, rfl, rfl, (Blk.new_ (by simp) rfl : Blk ((W0.alloc _).alloc _) _ _ _).drew, ((Blk.new _ _ _).alloc _).drew, below_drew (((Below.refl _ W0).alloc (Nat.le_refl _) _).alloc (by simp) _)⟩
  case rest =>
    obtain ⟨g5, g6, rfl, rfl, BA1, BB1, hW⟩ := hcut
    clear c0 c1 c2 c3 c4 c5 c6 c7 d0 d1 d2 d3 d4 d5 d6 d7 k0 k7
    have HB1 := Lib.hid (HB.out.trans (hW.mono HB.out.size))
    have BA1 := Lib.hid BA1
    have BB1 := Lib.hid BB1
    have BX1 := Lib.hid (K2.out.below hW)
    clear hW K2 HB HC HD
    have a1_0 : wc.cell? ⟨g5, 0, none⟩ = some (.int .i64 a.op) := BA1.out.cell 0
    have a1_1 : wc.cell? ⟨g5, 1, none⟩ = some (.string a.tb) := BA1.out.cell 1
    have a1_2 : wc.cell? ⟨g5, 2, none⟩ = some (.string a.nm) := BA1.out.cell 2
    have a1_3 : wc.cell? ⟨g5, 3, none⟩ = some (.int .i64 a.ix) := BA1.out.cell 3
    have a1_4 : wc.cell? ⟨g5, 4, none⟩ = some (.int .i64 a.v.k) := BA1.out.cell 4
    have a1_5 : wc.cell? ⟨g5, 5, none⟩ = some (.int .i64 a.v.n) := BA1.out.cell 5
    have a1_6 : wc.cell? ⟨g5, 6, none⟩ = some (.string a.v.s) := BA1.out.cell 6
    have a1_7 : wc.cell? ⟨g5, 7, none⟩ = some (.slice a.A a.args.length a.c) := BA1.out.cell 7
    have b1_0 : wc.cell? ⟨g6, 0, none⟩ = some (.int .i64 b.op) := BB1.out.cell 0
    have b1_1 : wc.cell? ⟨g6, 1, none⟩ = some (.string b.tb) := BB1.out.cell 1
    have b1_2 : wc.cell? ⟨g6, 2, none⟩ = some (.string b.nm) := BB1.out.cell 2
    have b1_3 : wc.cell? ⟨g6, 3, none⟩ = some (.int .i64 b.ix) := BB1.out.cell 3
    have b1_4 : wc.cell? ⟨g6, 4, none⟩ = some (.int .i64 b.v.k) := BB1.out.cell 4
    have b1_5 : wc.cell? ⟨g6, 5, none⟩ = some (.int .i64 b.v.n) := BB1.out.cell 5
    have b1_6 : wc.cell? ⟨g6, 6, none⟩ = some (.string b.v.s) := BB1.out.cell 6
    have b1_7 : wc.cell? ⟨g6, 7, none⟩ = some (.slice b.A b.args.length b.c) := BB1.out.cell 7
    have x1_0 : wc.cell? ⟨w.heap.size, 0, none⟩ = some (.int .i64 11) := BX1.out.cell 0
    have x1_1 : wc.cell? ⟨w.heap.size, 1, none⟩ = some (.string x.tb) := BX1.out.cell 1
    have x1_2 : wc.cell? ⟨w.heap.size, 2, none⟩ = some (.string x.nm) := BX1.out.cell 2
    have x1_3 : wc.cell? ⟨w.heap.size, 3, none⟩ = some (.int .i64 x.ix) := BX1.out.cell 3
    have x1_4 : wc.cell? ⟨w.heap.size, 4, none⟩ = some (.int .i64 x.v.k) := BX1.out.cell 4
    have x1_5 : wc.cell? ⟨w.heap.size, 5, none⟩ = some (.int .i64 x.v.n) := BX1.out.cell 5
    have x1_6 : wc.cell? ⟨w.heap.size, 6, none⟩ = some (.string x.v.s) := BX1.out.cell 6
    have x1_7 : wc.cell? ⟨w.heap.size, 7, none⟩ = some (.slice (some ⟨b0, off, none⟩) x.args.length x.c) := BX1.out.cell 7
    have la1 : g5 < wc.heap.size := BA1.out.lt
    have lb1 : g6 < wc.heap.size := BB1.out.lt
    have lx1 : w.heap.size < wc.heap.size := BX1.out.lt
    go_wp2_with fail
    refine (I1a.out _ HB1.out).mono ?_
    rintro e w1 ⟨rfl, hb⟩
    have HB2 := Lib.hid (HB1.out.trans (hb.mono HB1.out.size))
    have BA2 := Lib.hid (BA1.out.below hb)
    have BB2 := Lib.hid (BB1.out.below hb)
    have BX2 := Lib.hid (BX1.out.below hb)
    clear hb a1_0 a1_1 a1_2 a1_3 a1_4 a1_5 a1_6 a1_7 b1_0 b1_1 b1_2 b1_3 b1_4 b1_5 b1_6 b1_7 x1_0 x1_1 x1_2 x1_3 x1_4 x1_5 x1_6 x1_7 la1 lb1 lx1
    cases i1a
    case false =>
      have a2_0 : w1.cell? ⟨g5, 0, none⟩ = some (.int .i64 a.op) := BA2.out.cell 0
      have a2_1 : w1.cell? ⟨g5, 1, none⟩ = some (.string a.tb) := BA2.out.cell 1
      have a2_2 : w1.cell? ⟨g5, 2, none⟩ = some (.string a.nm) := BA2.out.cell 2
      have a2_3 : w1.cell? ⟨g5, 3, none⟩ = some (.int .i64 a.ix) := BA2.out.cell 3
      have a2_4 : w1.cell? ⟨g5, 4, none⟩ = some (.int .i64 a.v.k) := BA2.out.cell 4
      have a2_5 : w1.cell? ⟨g5, 5, none⟩ = some (.int .i64 a.v.n) := BA2.out.cell 5
      have a2_6 : w1.cell? ⟨g5, 6, none⟩ = some (.string a.v.s) := BA2.out.cell 6
      have a2_7 : w1.cell? ⟨g5, 7, none⟩ = some (.slice a.A a.args.length a.c) := BA2.out.cell 7
      have b2_0 : w1.cell? ⟨g6, 0, none⟩ = some (.int .i64 b.op) := BB2.out.cell 0
      have b2_1 : w1.cell? ⟨g6, 1, none⟩ = some (.string b.tb) := BB2.out.cell 1
      have b2_2 : w1.cell? ⟨g6, 2, none⟩ = some (.string b.nm) := BB2.out.cell 2
      have b2_3 : w1.cell? ⟨g6, 3, none⟩ = some (.int .i64 b.ix) := BB2.out.cell 3
      have b2_4 : w1.cell? ⟨g6, 4, none⟩ = some (.int .i64 b.v.k) := BB2.out.cell 4
      have b2_5 : w1.cell? ⟨g6, 5, none⟩ = some (.int .i64 b.v.n) := BB2.out.cell 5
      have b2_6 : w1.cell? ⟨g6, 6, none⟩ = some (.string b.v.s) := BB2.out.cell 6
      have b2_7 : w1.cell? ⟨g6, 7, none⟩ = some (.slice b.A b.args.length b.c) := BB2.out.cell 7
      have x2_0 : w1.cell? ⟨w.heap.size, 0, none⟩ = some (.int .i64 11) := BX2.out.cell 0
      have x2_1 : w1.cell? ⟨w.heap.size, 1, none⟩ = some (.string x.tb) := BX2.out.cell 1
      have x2_2 : w1.cell? ⟨w.heap.size, 2, none⟩ = some (.string x.nm) := BX2.out.cell 2
      have x2_3 : w1.cell? ⟨w.heap.size, 3, none⟩ = some (.int .i64 x.ix) := BX2.out.cell 3
      have x2_4 : w1.cell? ⟨w.heap.size, 4, none⟩ = some (.int .i64 x.v.k) := BX2.out.cell 4
      have x2_5 : w1.cell? ⟨w.heap.size, 5, none⟩ = some (.int .i64 x.v.n) := BX2.out.cell 5
      have x2_6 : w1.cell? ⟨w.heap.size, 6, none⟩ = some (.string x.v.s) := BX2.out.cell 6
      have x2_7 : w1.cell? ⟨w.heap.size, 7, none⟩ = some (.slice (some ⟨b0, off, none⟩) x.args.length x.c) := BX2.out.cell 7
      have la2 : g5 < w1.heap.size := BA2.out.lt
      have lb2 : g6 < w1.heap.size := BB2.out.lt
      have lx2 : w.heap.size < w1.heap.size := BX2.out.lt
      go_wp2_with fail
      refine (I2a.out _ HB2.out).mono ?_
      rintro e w2 ⟨rfl, hb⟩
      have HB3 := Lib.hid (HB2.out.trans (hb.mono HB2.out.size))
      have BA3 := Lib.hid (BA2.out.below hb)
      have BB3 := Lib.hid (BB2.out.below hb)
      have BX3 := Lib.hid (BX2.out.below hb)
      clear hb a2_0 a2_1 a2_2 a2_3 a2_4 a2_5 a2_6 a2_7 b2_0 b2_1 b2_2 b2_3 b2_4 b2_5 b2_6 b2_7 x2_0 x2_1 x2_2 x2_3 x2_4 x2_5 x2_6 x2_7 la2 lb2 lx2
      cases i2a
      case false =>
        have HF := Lib.hid (show (-1 : Int) = r by rw [← HR.out]; simp)
        clear HR
        go_wp2
        go_ret
        exact ⟨ret_int HF.out, HB3.out⟩
      case true =>
        have a3_0 : w2.cell? ⟨g5, 0, none⟩ = some (.int .i64 a.op) := BA3.out.cell 0
        have a3_1 : w2.cell? ⟨g5, 1, none⟩ = some (.string a.tb) := BA3.out.cell 1
        have a3_2 : w2.cell? ⟨g5, 2, none⟩ = some (.string a.nm) := BA3.out.cell 2
        have a3_3 : w2.cell? ⟨g5, 3, none⟩ = some (.int .i64 a.ix) := BA3.out.cell 3
        have a3_4 : w2.cell? ⟨g5, 4, none⟩ = some (.int .i64 a.v.k) := BA3.out.cell 4
        have a3_5 : w2.cell? ⟨g5, 5, none⟩ = some (.int .i64 a.v.n) := BA3.out.cell 5
        have a3_6 : w2.cell? ⟨g5, 6, none⟩ = some (.string a.v.s) := BA3.out.cell 6
        have a3_7 : w2.cell? ⟨g5, 7, none⟩ = some (.slice a.A a.args.length a.c) := BA3.out.cell 7
        have b3_0 : w2.cell? ⟨g6, 0, none⟩ = some (.int .i64 b.op) := BB3.out.cell 0
        have b3_1 : w2.cell? ⟨g6, 1, none⟩ = some (.string b.tb) := BB3.out.cell 1
        have b3_2 : w2.cell? ⟨g6, 2, none⟩ = some (.string b.nm) := BB3.out.cell 2
        have b3_3 : w2.cell? ⟨g6, 3, none⟩ = some (.int .i64 b.ix) := BB3.out.cell 3
        have b3_4 : w2.cell? ⟨g6, 4, none⟩ = some (.int .i64 b.v.k) := BB3.out.cell 4
        have b3_5 : w2.cell? ⟨g6, 5, none⟩ = some (.int .i64 b.v.n) := BB3.out.cell 5
        have b3_6 : w2.cell? ⟨g6, 6, none⟩ = some (.string b.v.s) := BB3.out.cell 6
        have b3_7 : w2.cell? ⟨g6, 7, none⟩ = some (.slice b.A b.args.length b.c) := BB3.out.cell 7
        have x3_0 : w2.cell? ⟨w.heap.size, 0, none⟩ = some (.int .i64 11) := BX3.out.cell 0
        have x3_1 : w2.cell? ⟨w.heap.size, 1, none⟩ = some (.string x.tb) := BX3.out.cell 1
        have x3_2 : w2.cell? ⟨w.heap.size, 2, none⟩ = some (.string x.nm) := BX3.out.cell 2
        have x3_3 : w2.cell? ⟨w.heap.size, 3, none⟩ = some (.int .i64 x.ix) := BX3.out.cell 3
        have x3_4 : w2.cell? ⟨w.heap.size, 4, none⟩ = some (.int .i64 x.v.k) := BX3.out.cell 4
        have x3_5 : w2.cell? ⟨w.heap.size, 5, none⟩ = some (.int .i64 x.v.n) := BX3.out.cell 5
        have x3_6 : w2.cell? ⟨w.heap.size, 6, none⟩ = some (.string x.v.s) := BX3.out.cell 6
        have x3_7 : w2.cell? ⟨w.heap.size, 7, none⟩ = some (.slice (some ⟨b0, off, none⟩) x.args.length x.c) := BX3.out.cell 7
        have la3 : g5 < w2.heap.size := BA3.out.lt
        have lb3 : g6 < w2.heap.size := BB3.out.lt
        have lx3 : w.heap.size < w2.heap.size := BX3.out.lt
        go_wp2_with fail
        refine (I2b.out _ HB3.out).mono ?_
        rintro e w3 ⟨rfl, hb⟩
        have HB4 := Lib.hid (HB3.out.trans (hb.mono HB3.out.size))
        have BA4 := Lib.hid (BA3.out.below hb)
        have BB4 := Lib.hid (BB3.out.below hb)
        have BX4 := Lib.hid (BX3.out.below hb)
        clear hb a3_0 a3_1 a3_2 a3_3 a3_4 a3_5 a3_6 a3_7 b3_0 b3_1 b3_2 b3_3 b3_4 b3_5 b3_6 b3_7 x3_0 x3_1 x3_2 x3_3 x3_4 x3_5 x3_6 x3_7 la3 lb3 lx3
        cases i2b
        case false =>
          have HF := Lib.hid (show (-1 : Int) = r by rw [← HR.out]; simp)
          clear HR
          go_wp2
          go_ret
          exact ⟨ret_int HF.out, HB4.out⟩
        case true =>
          have HF := Lib.hid (show (3 : Int) = r by rw [← HR.out]; simp)
          clear HR
          go_wp2
          go_ret
          exact ⟨ret_int HF.out, HB4.out⟩
    case true =>
      have a2_0 : w1.cell? ⟨g5, 0, none⟩ = some (.int .i64 a.op) := BA2.out.cell 0
      have a2_1 : w1.cell? ⟨g5, 1, none⟩ = some (.string a.tb) := BA2.out.cell 1
      have a2_2 : w1.cell? ⟨g5, 2, none⟩ = some (.string a.nm) := BA2.out.cell 2
      have a2_3 : w1.cell? ⟨g5, 3, none⟩ = some (.int .i64 a.ix) := BA2.out.cell 3
      have a2_4 : w1.cell? ⟨g5, 4, none⟩ = some (.int .i64 a.v.k) := BA2.out.cell 4
      have a2_5 : w1.cell? ⟨g5, 5, none⟩ = some (.int .i64 a.v.n) := BA2.out.cell 5
      have a2_6 : w1.cell? ⟨g5, 6, none⟩ = some (.string a.v.s) := BA2.out.cell 6
      have a2_7 : w1.cell? ⟨g5, 7, none⟩ = some (.slice a.A a.args.length a.c) := BA2.out.cell 7
      have b2_0 : w1.cell? ⟨g6, 0, none⟩ = some (.int .i64 b.op) := BB2.out.cell 0
      have b2_1 : w1.cell? ⟨g6, 1, none⟩ = some (.string b.tb) := BB2.out.cell 1
      have b2_2 : w1.cell? ⟨g6, 2, none⟩ = some (.string b.nm) := BB2.out.cell 2
      have b2_3 : w1.cell? ⟨g6, 3, none⟩ = some (.int .i64 b.ix) := BB2.out.cell 3
      have b2_4 : w1.cell? ⟨g6, 4, none⟩ = some (.int .i64 b.v.k) := BB2.out.cell 4
      have b2_5 : w1.cell? ⟨g6, 5, none⟩ = some (.int .i64 b.v.n) := BB2.out.cell 5
      have b2_6 : w1.cell? ⟨g6, 6, none⟩ = some (.string b.v.s) := BB2.out.cell 6
      have b2_7 : w1.cell? ⟨g6, 7, none⟩ = some (.slice b.A b.args.length b.c) := BB2.out.cell 7
      have x2_0 : w1.cell? ⟨w.heap.size, 0, none⟩ = some (.int .i64 11) := BX2.out.cell 0
      have x2_1 : w1.cell? ⟨w.heap.size, 1, none⟩ = some (.string x.tb) := BX2.out.cell 1
      have x2_2 : w1.cell? ⟨w.heap.size, 2, none⟩ = some (.string x.nm) := BX2.out.cell 2
      have x2_3 : w1.cell? ⟨w.heap.size, 3, none⟩ = some (.int .i64 x.ix) := BX2.out.cell 3
      have x2_4 : w1.cell? ⟨w.heap.size, 4, none⟩ = some (.int .i64 x.v.k) := BX2.out.cell 4
      have x2_5 : w1.cell? ⟨w.heap.size, 5, none⟩ = some (.int .i64 x.v.n) := BX2.out.cell 5
      have x2_6 : w1.cell? ⟨w.heap.size, 6, none⟩ = some (.string x.v.s) := BX2.out.cell 6
      have x2_7 : w1.cell? ⟨w.heap.size, 7, none⟩ = some (.slice (some ⟨b0, off, none⟩) x.args.length x.c) := BX2.out.cell 7
      have la2 : g5 < w1.heap.size := BA2.out.lt
      have lb2 : g6 < w1.heap.size := BB2.out.lt
      have lx2 : w.heap.size < w1.heap.size := BX2.out.lt
      go_wp2_with fail
      refine (I1b.out _ HB2.out).mono ?_
      rintro e w2 ⟨rfl, hb⟩
      have HB3 := Lib.hid (HB2.out.trans (hb.mono HB2.out.size))
      have BA3 := Lib.hid (BA2.out.below hb)
      have BB3 := Lib.hid (BB2.out.below hb)
      have BX3 := Lib.hid (BX2.out.below hb)
      clear hb a2_0 a2_1 a2_2 a2_3 a2_4 a2_5 a2_6 a2_7 b2_0 b2_1 b2_2 b2_3 b2_4 b2_5 b2_6 b2_7 x2_0 x2_1 x2_2 x2_3 x2_4 x2_5 x2_6 x2_7 la2 lb2 lx2
      cases i1b
      case false =>
        have a3_0 : w2.cell? ⟨g5, 0, none⟩ = some (.int .i64 a.op) := BA3.out.cell 0
        have a3_1 : w2.cell? ⟨g5, 1, none⟩ = some (.string a.tb) := BA3.out.cell 1
        have a3_2 : w2.cell? ⟨g5, 2, none⟩ = some (.string a.nm) := BA3.out.cell 2
        have a3_3 : w2.cell? ⟨g5, 3, none⟩ = some (.int .i64 a.ix) := BA3.out.cell 3
        have a3_4 : w2.cell? ⟨g5, 4, none⟩ = some (.int .i64 a.v.k) := BA3.out.cell 4
        have a3_5 : w2.cell? ⟨g5, 5, none⟩ = some (.int .i64 a.v.n) := BA3.out.cell 5
        have a3_6 : w2.cell? ⟨g5, 6, none⟩ = some (.string a.v.s) := BA3.out.cell 6
        have a3_7 : w2.cell? ⟨g5, 7, none⟩ = some (.slice a.A a.args.length a.c) := BA3.out.cell 7
        have b3_0 : w2.cell? ⟨g6, 0, none⟩ = some (.int .i64 b.op) := BB3.out.cell 0
        have b3_1 : w2.cell? ⟨g6, 1, none⟩ = some (.string b.tb) := BB3.out.cell 1
        have b3_2 : w2.cell? ⟨g6, 2, none⟩ = some (.string b.nm) := BB3.out.cell 2
        have b3_3 : w2.cell? ⟨g6, 3, none⟩ = some (.int .i64 b.ix) := BB3.out.cell 3
        have b3_4 : w2.cell? ⟨g6, 4, none⟩ = some (.int .i64 b.v.k) := BB3.out.cell 4
        have b3_5 : w2.cell? ⟨g6, 5, none⟩ = some (.int .i64 b.v.n) := BB3.out.cell 5
        have b3_6 : w2.cell? ⟨g6, 6, none⟩ = some (.string b.v.s) := BB3.out.cell 6
        have b3_7 : w2.cell? ⟨g6, 7, none⟩ = some (.slice b.A b.args.length b.c) := BB3.out.cell 7
        have x3_0 : w2.cell? ⟨w.heap.size, 0, none⟩ = some (.int .i64 11) := BX3.out.cell 0
        have x3_1 : w2.cell? ⟨w.heap.size, 1, none⟩ = some (.string x.tb) := BX3.out.cell 1
        have x3_2 : w2.cell? ⟨w.heap.size, 2, none⟩ = some (.string x.nm) := BX3.out.cell 2
        have x3_3 : w2.cell? ⟨w.heap.size, 3, none⟩ = some (.int .i64 x.ix) := BX3.out.cell 3
        have x3_4 : w2.cell? ⟨w.heap.size, 4, none⟩ = some (.int .i64 x.v.k) := BX3.out.cell 4
        have x3_5 : w2.cell? ⟨w.heap.size, 5, none⟩ = some (.int .i64 x.v.n) := BX3.out.cell 5
        have x3_6 : w2.cell? ⟨w.heap.size, 6, none⟩ = some (.string x.v.s) := BX3.out.cell 6
        have x3_7 : w2.cell? ⟨w.heap.size, 7, none⟩ = some (.slice (some ⟨b0, off, none⟩) x.args.length x.c) := BX3.out.cell 7
        have la3 : g5 < w2.heap.size := BA3.out.lt
        have lb3 : g6 < w2.heap.size := BB3.out.lt
        have lx3 : w.heap.size < w2.heap.size := BX3.out.lt
        go_wp2_with fail
        refine (I2a.out _ HB3.out).mono ?_
        rintro e w3 ⟨rfl, hb⟩
        have HB4 := Lib.hid (HB3.out.trans (hb.mono HB3.out.size))
        have BA4 := Lib.hid (BA3.out.below hb)
        have BB4 := Lib.hid (BB3.out.below hb)
        have BX4 := Lib.hid (BX3.out.below hb)
        clear hb a3_0 a3_1 a3_2 a3_3 a3_4 a3_5 a3_6 a3_7 b3_0 b3_1 b3_2 b3_3 b3_4 b3_5 b3_6 b3_7 x3_0 x3_1 x3_2 x3_3 x3_4 x3_5 x3_6 x3_7 la3 lb3 lx3
        cases i2a
        case false =>
          have HF := Lib.hid (show (-1 : Int) = r by rw [← HR.out]; simp)
          clear HR
          go_wp2
          go_ret
          exact ⟨ret_int HF.out, HB4.out⟩
        case true =>
          have a4_0 : w3.cell? ⟨g5, 0, none⟩ = some (.int .i64 a.op) := BA4.out.cell 0
          have a4_1 : w3.cell? ⟨g5, 1, none⟩ = some (.string a.tb) := BA4.out.cell 1
          have a4_2 : w3.cell? ⟨g5, 2, none⟩ = some (.string a.nm) := BA4.out.cell 2
          have a4_3 : w3.cell? ⟨g5, 3, none⟩ = some (.int .i64 a.ix) := BA4.out.cell 3
          have a4_4 : w3.cell? ⟨g5, 4, none⟩ = some (.int .i64 a.v.k) := BA4.out.cell 4
          have a4_5 : w3.cell? ⟨g5, 5, none⟩ = some (.int .i64 a.v.n) := BA4.out.cell 5
          have a4_6 : w3.cell? ⟨g5, 6, none⟩ = some (.string a.v.s) := BA4.out.cell 6
          have a4_7 : w3.cell? ⟨g5, 7, none⟩ = some (.slice a.A a.args.length a.c) := BA4.out.cell 7
          have b4_0 : w3.cell? ⟨g6, 0, none⟩ = some (.int .i64 b.op) := BB4.out.cell 0
          have b4_1 : w3.cell? ⟨g6, 1, none⟩ = some (.string b.tb) := BB4.out.cell 1
          have b4_2 : w3.cell? ⟨g6, 2, none⟩ = some (.string b.nm) := BB4.out.cell 2
          have b4_3 : w3.cell? ⟨g6, 3, none⟩ = some (.int .i64 b.ix) := BB4.out.cell 3
          have b4_4 : w3.cell? ⟨g6, 4, none⟩ = some (.int .i64 b.v.k) := BB4.out.cell 4
          have b4_5 : w3.cell? ⟨g6, 5, none⟩ = some (.int .i64 b.v.n) := BB4.out.cell 5
          have b4_6 : w3.cell? ⟨g6, 6, none⟩ = some (.string b.v.s) := BB4.out.cell 6
          have b4_7 : w3.cell? ⟨g6, 7, none⟩ = some (.slice b.A b.args.length b.c) := BB4.out.cell 7
          have x4_0 : w3.cell? ⟨w.heap.size, 0, none⟩ = some (.int .i64 11) := BX4.out.cell 0
          have x4_1 : w3.cell? ⟨w.heap.size, 1, none⟩ = some (.string x.tb) := BX4.out.cell 1
          have x4_2 : w3.cell? ⟨w.heap.size, 2, none⟩ = some (.string x.nm) := BX4.out.cell 2
          have x4_3 : w3.cell? ⟨w.heap.size, 3, none⟩ = some (.int .i64 x.ix) := BX4.out.cell 3
          have x4_4 : w3.cell? ⟨w.heap.size, 4, none⟩ = some (.int .i64 x.v.k) := BX4.out.cell 4
          have x4_5 : w3.cell? ⟨w.heap.size, 5, none⟩ = some (.int .i64 x.v.n) := BX4.out.cell 5
          have x4_6 : w3.cell? ⟨w.heap.size, 6, none⟩ = some (.string x.v.s) := BX4.out.cell 6
          have x4_7 : w3.cell? ⟨w.heap.size, 7, none⟩ = some (.slice (some ⟨b0, off, none⟩) x.args.length x.c) := BX4.out.cell 7
          have la4 : g5 < w3.heap.size := BA4.out.lt
          have lb4 : g6 < w3.heap.size := BB4.out.lt
          have lx4 : w.heap.size < w3.heap.size := BX4.out.lt
          go_wp2_with fail
          refine (I2b.out _ HB4.out).mono ?_
          rintro e w4 ⟨rfl, hb⟩
          have HB5 := Lib.hid (HB4.out.trans (hb.mono HB4.out.size))
          have BA5 := Lib.hid (BA4.out.below hb)
          have BB5 := Lib.hid (BB4.out.below hb)
          have BX5 := Lib.hid (BX4.out.below hb)
          clear hb a4_0 a4_1 a4_2 a4_3 a4_4 a4_5 a4_6 a4_7 b4_0 b4_1 b4_2 b4_3 b4_4 b4_5 b4_6 b4_7 x4_0 x4_1 x4_2 x4_3 x4_4 x4_5 x4_6 x4_7 la4 lb4 lx4
          cases i2b
          case false =>
            have HF := Lib.hid (show (-1 : Int) = r by rw [← HR.out]; simp)
            clear HR
            go_wp2
            go_ret
            exact ⟨ret_int HF.out, HB5.out⟩
          case true =>
            have HF := Lib.hid (show (3 : Int) = r by rw [← HR.out]; simp)
            clear HR
            go_wp2
            go_ret
            exact ⟨ret_int HF.out, HB5.out⟩
      case true =>
        have HF := Lib.hid (show (3 : Int) = r by rw [← HR.out]; simp)
        clear HR
        go_wp2
        go_ret
        exact ⟨ret_int HF.out, HB3.out⟩
set_option maxRecDepth 100000 in
set_option maxHeartbeats 4000000 in
theorem ty2_12 (L : List Va) (V : Value) (x a b : Ex) (hargs : x.args = [a, b]) (hop : x.op = 12) (w : World) (h : ExAt w x) (Ha : TyAt L V a w) (Hb : TyAt L V b w) : Calls Try.prog 52 #[x.agg, V] w fun e w' => e = .returned (.int .i64 (biT 12 a b (tyM L a) (tyM L b))) ∧ Below w.heap.size w w' := by
  have I1a := Lib.hid (fun W (hW : Below w.heap.size w W) => is_any L V a 1 W (Ha.keep hW))
  have I1b := Lib.hid (fun W (hW : Below w.heap.size w W) => is_any L V b 1 W (Hb.keep hW))
  have I2a := Lib.hid (fun W (hW : Below w.heap.size w W) => is_any L V a 2 W (Ha.keep hW))
  have I2b := Lib.hid (fun W (hW : Below w.heap.size w W) => is_any L V b 2 W (Hb.keep hW))
  have hx0 : 0 < x.args.length := by rw [hargs]; exact Nat.zero_lt_succ _
  have hx1 : 1 < x.args.length := by rw [hargs]; exact Nat.lt_succ_self _
  have hx1i : (1 : Int) < (x.args.length : Int) := by omega
  have e1 : ((x.args.length : Int) == 2) = true := by rw [hargs]; rfl
  have e2 : ((x.args.length : Int) != 2) = false := by rw [hargs]; rfl
  obtain ⟨b0, off, hA, hbl, hc⟩ := h.at' hx0
  have HC := Lib.hid (fun W hW => hc W hW 0 a (by rw [hargs]; rfl))
  have HD := Lib.hid (fun W hW => hc W hW 1 b (by rw [hargs]; rfl))
  simp only [Nat.zero_mul, Nat.add_zero, Nat.one_mul, Nat.add_assoc, Nat.reduceAdd] at HC HD
  unfold TyAt at Ha Hb
  obtain ⟨s, hs⟩ : ∃ u, tyM L a = u := ⟨_, rfl⟩
  obtain ⟨t, ht⟩ : ∃ u, tyM L b = u := ⟨_, rfl⟩
  simp only [hs, ht] at I1a I1b I2a I2b ⊢
  obtain ⟨i1a, hi1a⟩ : ∃ u, isC s 1 = u := ⟨_, rfl⟩
  obtain ⟨i1b, hi1b⟩ : ∃ u, isC t 1 = u := ⟨_, rfl⟩
  obtain ⟨i2a, hi2a⟩ : ∃ u, isC s 2 = u := ⟨_, rfl⟩
  obtain ⟨i2b, hi2b⟩ : ∃ u, isC t 2 = u := ⟨_, rfl⟩
  obtain ⟨r, hr⟩ : ∃ r, biT 12 a b s t = r := ⟨_, rfl⟩
  rw [hr]
  have hr1 : biT 12 a b s t = r := hr
  unfold biT at hr1
  rw [if_neg (by decide), if_pos (by decide)] at hr1
  simp only [hi1a, hi1b, hi2a, hi2b] at hr1 I1a I1b I2a I2b
  have HR := Lib.hid (show (if ((i1a && i1b) || (i2a && i2b)) = true then 3 else -1) = r from hr1)
  unfold Ex.agg at *
  rw [hop, hA]
  have hbw : b0 < w.heap.size := hbl
  clear hr hr1 hc hbl hi1a hi1b hi2a hi2b hs ht h hargs hop hA Ha Hb
  obtain ⟨W0, hW0⟩ : ∃ W, W = w.alloc (.cells #[.int .i64 12, .string x.tb, .string x.nm, .int .i64 x.ix, .int .i64 x.v.k, .int .i64 x.v.n, .string x.v.s, .slice (some ⟨b0, off, none⟩) x.args.length x.c] 26) := ⟨_, rfl⟩
  have HB := Lib.hid (show Below w.heap.size w W0 by rw [hW0]; exact (Below.refl _ w).alloc (Nat.le_refl _) _)
  have K2 := Lib.hid (show Blk W0 w.heap.size 26 #[.int .i64 12, .string x.tb, .string x.nm, .int .i64 x.ix, .int .i64 x.v.k, .int .i64 x.v.n, .string x.v.s, .slice (some ⟨b0, off, none⟩) x.args.length x.c] by rw [hW0]; exact Blk.new _ _ _)
  have hl0 : w.heap.size < W0.heap.size := K2.out.lt
  have hb1 : b0 < W0.heap.size := by omega
  obtain ⟨c0, c1, c2, c3, c4, c5, c6, c7⟩ := HC.out _ HB.out
  obtain ⟨d0, d1, d2, d3, d4, d5, d6, d7⟩ := HD.out _ HB.out
  have k0 : W0.cell? ⟨w.heap.size, 0, none⟩ = some (.int .i64 12) := K2.out.cell 0
  have k7 : W0.cell? ⟨w.heap.size, 7, none⟩ = some (.slice (some ⟨b0, off, none⟩) x.args.length x.c) := K2.out.cell 7
  go_enter Try.func52, Try.ntmps52
  go_upto_region 1 with fail
  rw [← hW0]
  clear hW0
  go_upto_region 17 with fail
  go_cut [5, 6] from 7 (fun s5 s6 wx => ∃ g5 g6 : Nat, s5 = .pointer (some ⟨g5, 0, none⟩) ∧ s6 = .pointer (some ⟨g6, 0, none⟩) ∧ Blk wx g5 26 #[.int .i64 a.op, .string a.tb, .string a.nm, .int .i64 a.ix, .int .i64 a.v.k, .int .i64 a.v.n, .string a.v.s, .slice a.A a.args.length a.c] ∧ Blk wx g6 26 #[.int .i64 b.op, .string b.tb, .string b.nm, .int .i64 b.ix, .int .i64 b.v.k, .int .i64 b.v.n, .string b.v.s, .slice b.A b.args.length b.c] ∧ Below W0.heap.size W0 wx)
  case first =>
    go_region
    · go_wp2_with fail
      go_meet
      case rel => exact ⟨_, _, rfl, rfl, ((Blk.new _ _ _).alloc _).drew, (Blk.new_ (by simp) rfl : Blk ((W0.alloc _).alloc _) _ _ _).drew, below_drew (((Below.refl _ W0).alloc (Nat.le_refl _) _).alloc (by simp) _)⟩
    · go_wp2_with fail
      go_meet
      case rel => exact ⟨_, _, rfl, rfl, (Blk.new_ (by simp) rfl : Blk ((W0.alloc _).alloc _) _ _ _).drew, ((Blk.new _ _ _).alloc _).drew, below_drew (((Below.refl _ W0).alloc (Nat.le_refl _) _).alloc (by simp) _)⟩
  case rest =>
    obtain ⟨g5, g6, rfl, rfl, BA1, BB1, hW⟩ := hcut
    clear c0 c1 c2 c3 c4 c5 c6 c7 d0 d1 d2 d3 d4 d5 d6 d7 k0 k7
    have HB1 := Lib.hid (HB.out.trans (hW.mono HB.out.size))
    have BA1 := Lib.hid BA1
    have BB1 := Lib.hid BB1
    have BX1 := Lib.hid (K2.out.below hW)
    clear hW K2 HB HC HD
    have a1_0 : wc.cell? ⟨g5, 0, none⟩ = some (.int .i64 a.op) := BA1.out.cell 0
    have a1_1 : wc.cell? ⟨g5, 1, none⟩ = some (.string a.tb) := BA1.out.cell 1
    have a1_2 : wc.cell? ⟨g5, 2, none⟩ = some (.string a.nm) := BA1.out.cell 2
    have a1_3 : wc.cell? ⟨g5, 3, none⟩ = some (.int .i64 a.ix) := BA1.out.cell 3
    have a1_4 : wc.cell? ⟨g5, 4, none⟩ = some (.int .i64 a.v.k) := BA1.out.cell 4
    have a1_5 : wc.cell? ⟨g5, 5, none⟩ = some (.int .i64 a.v.n) := BA1.out.cell 5
    have a1_6 : wc.cell? ⟨g5, 6, none⟩ = some (.string a.v.s) := BA1.out.cell 6
    have a1_7 : wc.cell? ⟨g5, 7, none⟩ = some (.slice a.A a.args.length a.c) := BA1.out.cell 7
    have b1_0 : wc.cell? ⟨g6, 0, none⟩ = some (.int .i64 b.op) := BB1.out.cell 0
    have b1_1 : wc.cell? ⟨g6, 1, none⟩ = some (.string b.tb) := BB1.out.cell 1
    have b1_2 : wc.cell? ⟨g6, 2, none⟩ = some (.string b.nm) := BB1.out.cell 2
    have b1_3 : wc.cell? ⟨g6, 3, none⟩ = some (.int .i64 b.ix) := BB1.out.cell 3
    have b1_4 : wc.cell? ⟨g6, 4, none⟩ = some (.int .i64 b.v.k) := BB1.out.cell 4
    have b1_5 : wc.cell? ⟨g6, 5, none⟩ = some (.int .i64 b.v.n) := BB1.out.cell 5
    have b1_6 : wc.cell? ⟨g6, 6, none⟩ = some (.string b.v.s) := BB1.out.cell 6
    have b1_7 : wc.cell? ⟨g6, 7, none⟩ = some (.slice b.A b.args.length b.c) := BB1.out.cell 7
    have x1_0 : wc.cell? ⟨w.heap.size, 0, none⟩ = some (.int .i64 12) := BX1.out.cell 0
    have x1_1 : wc.cell? ⟨w.heap.size, 1, none⟩ = some (.string x.tb) := BX1.out.cell 1
    have x1_2 : wc.cell? ⟨w.heap.size, 2, none⟩ = some (.string x.nm) := BX1.out.cell 2
    have x1_3 : wc.cell? ⟨w.heap.size, 3, none⟩ = some (.int .i64 x.ix) := BX1.out.cell 3
    have x1_4 : wc.cell? ⟨w.heap.size, 4, none⟩ = some (.int .i64 x.v.k) := BX1.out.cell 4
    have x1_5 : wc.cell? ⟨w.heap.size, 5, none⟩ = some (.int .i64 x.v.n) := BX1.out.cell 5
    have x1_6 : wc.cell? ⟨w.heap.size, 6, none⟩ = some (.string x.v.s) := BX1.out.cell 6
    have x1_7 : wc.cell? ⟨w.heap.size, 7, none⟩ = some (.slice (some ⟨b0, off, none⟩) x.args.length x.c) := BX1.out.cell 7
    have la1 : g5 < wc.heap.size := BA1.out.lt
    have lb1 : g6 < wc.heap.size := BB1.out.lt
    have lx1 : w.heap.size < wc.heap.size := BX1.out.lt
    go_wp2_with fail
    refine (I1a.out _ HB1.out).mono ?_
    rintro e w1 ⟨rfl, hb⟩
    have HB2 := Lib.hid (HB1.out.trans (hb.mono HB1.out.size))
    have BA2 := Lib.hid (BA1.out.below hb)
    have BB2 := Lib.hid (BB1.out.below hb)
    have BX2 := Lib.hid (BX1.out.below hb)
    clear hb a1_0 a1_1 a1_2 a1_3 a1_4 a1_5 a1_6 a1_7 b1_0 b1_1 b1_2 b1_3 b1_4 b1_5 b1_6 b1_7 x1_0 x1_1 x1_2 x1_3 x1_4 x1_5 x1_6 x1_7 la1 lb1 lx1
    cases i1a
    case false =>
      have a2_0 : w1.cell? ⟨g5, 0, none⟩ = some (.int .i64 a.op) := BA2.out.cell 0
      have a2_1 : w1.cell? ⟨g5, 1, none⟩ = some (.string a.tb) := BA2.out.cell 1
      have a2_2 : w1.cell? ⟨g5, 2, none⟩ = some (.string a.nm) := BA2.out.cell 2
      have a2_3 : w1.cell? ⟨g5, 3, none⟩ = some (.int .i64 a.ix) := BA2.out.cell 3
      have a2_4 : w1.cell? ⟨g5, 4, none⟩ = some (.int .i64 a.v.k) := BA2.out.cell 4
      have a2_5 : w1.cell? ⟨g5, 5, none⟩ = some (.int .i64 a.v.n) := BA2.out.cell 5
      have a2_6 : w1.cell? ⟨g5, 6, none⟩ = some (.string a.v.s) := BA2.out.cell 6
      have a2_7 : w1.cell? ⟨g5, 7, none⟩ = some (.slice a.A a.args.length a.c) := BA2.out.cell 7
      have b2_0 : w1.cell? ⟨g6, 0, none⟩ = some (.int .i64 b.op) := BB2.out.cell 0
      have b2_1 : w1.cell? ⟨g6, 1, none⟩ = some (.string b.tb) := BB2.out.cell 1
      have b2_2 : w1.cell? ⟨g6, 2, none⟩ = some (.string b.nm) := BB2.out.cell 2
      have b2_3 : w1.cell? ⟨g6, 3, none⟩ = some (.int .i64 b.ix) := BB2.out.cell 3
      have b2_4 : w1.cell? ⟨g6, 4, none⟩ = some (.int .i64 b.v.k) := BB2.out.cell 4
      have b2_5 : w1.cell? ⟨g6, 5, none⟩ = some (.int .i64 b.v.n) := BB2.out.cell 5
      have b2_6 : w1.cell? ⟨g6, 6, none⟩ = some (.string b.v.s) := BB2.out.cell 6
      have b2_7 : w1.cell? ⟨g6, 7, none⟩ = some (.slice b.A b.args.length b.c) := BB2.out.cell 7
      have x2_0 : w1.cell? ⟨w.heap.size, 0, none⟩ = some (.int .i64 12) := BX2.out.cell 0
      have x2_1 : w1.cell? ⟨w.heap.size, 1, none⟩ = some (.string x.tb) := BX2.out.cell 1
      have x2_2 : w1.cell? ⟨w.heap.size, 2, none⟩ = some (.string x.nm) := BX2.out.cell 2
      have x2_3 : w1.cell? ⟨w.heap.size, 3, none⟩ = some (.int .i64 x.ix) := BX2.out.cell 3
      have x2_4 : w1.cell? ⟨w.heap.size, 4, none⟩ = some (.int .i64 x.v.k) := BX2.out.cell 4
      have x2_5 : w1.cell? ⟨w.heap.size, 5, none⟩ = some (.int .i64 x.v.n) := BX2.out.cell 5
      have x2_6 : w1.cell? ⟨w.heap.size, 6, none⟩ = some (.string x.v.s) := BX2.out.cell 6
      have x2_7 : w1.cell? ⟨w.heap.size, 7, none⟩ = some (.slice (some ⟨b0, off, none⟩) x.args.length x.c) := BX2.out.cell 7
      have la2 : g5 < w1.heap.size := BA2.out.lt
      have lb2 : g6 < w1.heap.size := BB2.out.lt
      have lx2 : w.heap.size < w1.heap.size := BX2.out.lt
      go_wp2_with fail
      refine (I2a.out _ HB2.out).mono ?_
      rintro e w2 ⟨rfl, hb⟩
      have HB3 := Lib.hid (HB2.out.trans (hb.mono HB2.out.size))
      have BA3 := Lib.hid (BA2.out.below hb)
      have BB3 := Lib.hid (BB2.out.below hb)
      have BX3 := Lib.hid (BX2.out.below hb)
      clear hb a2_0 a2_1 a2_2 a2_3 a2_4 a2_5 a2_6 a2_7 b2_0 b2_1 b2_2 b2_3 b2_4 b2_5 b2_6 b2_7 x2_0 x2_1 x2_2 x2_3 x2_4 x2_5 x2_6 x2_7 la2 lb2 lx2
      cases i2a
      case false =>
        have HF := Lib.hid (show (-1 : Int) = r by rw [← HR.out]; simp)
        clear HR
        go_wp2
        go_ret
        exact ⟨ret_int HF.out, HB3.out⟩
      case true =>
        have a3_0 : w2.cell? ⟨g5, 0, none⟩ = some (.int .i64 a.op) := BA3.out.cell 0
        have a3_1 : w2.cell? ⟨g5, 1, none⟩ = some (.string a.tb) := BA3.out.cell 1
        have a3_2 : w2.cell? ⟨g5, 2, none⟩ = some (.string a.nm) := BA3.out.cell 2
        have a3_3 : w2.cell? ⟨g5, 3, none⟩ = some (.int .i64 a.ix) := BA3.out.cell 3
        have a3_4 : w2.cell? ⟨g5, 4, none⟩ = some (.int .i64 a.v.k) := BA3.out.cell 4
        have a3_5 : w2.cell? ⟨g5, 5, none⟩ = some (.int .i64 a.v.n) := BA3.out.cell 5
        have a3_6 : w2.cell? ⟨g5, 6, none⟩ = some (.string a.v.s) := BA3.out.cell 6
        have a3_7 : w2.cell? ⟨g5, 7, none⟩ = some (.slice a.A a.args.length a.c) := BA3.out.cell 7
        have b3_0 : w2.cell? ⟨g6, 0, none⟩ = some (.int .i64 b.op) := BB3.out.cell 0
        have b3_1 : w2.cell? ⟨g6, 1, none⟩ = some (.string b.tb) := BB3.out.cell 1
        have b3_2 : w2.cell? ⟨g6, 2, none⟩ = some (.string b.nm) := BB3.out.cell 2
        have b3_3 : w2.cell? ⟨g6, 3, none⟩ = some (.int .i64 b.ix) := BB3.out.cell 3
        have b3_4 : w2.cell? ⟨g6, 4, none⟩ = some (.int .i64 b.v.k) := BB3.out.cell 4
        have b3_5 : w2.cell? ⟨g6, 5, none⟩ = some (.int .i64 b.v.n) := BB3.out.cell 5
        have b3_6 : w2.cell? ⟨g6, 6, none⟩ = some (.string b.v.s) := BB3.out.cell 6
        have b3_7 : w2.cell? ⟨g6, 7, none⟩ = some (.slice b.A b.args.length b.c) := BB3.out.cell 7
        have x3_0 : w2.cell? ⟨w.heap.size, 0, none⟩ = some (.int .i64 12) := BX3.out.cell 0
        have x3_1 : w2.cell? ⟨w.heap.size, 1, none⟩ = some (.string x.tb) := BX3.out.cell 1
        have x3_2 : w2.cell? ⟨w.heap.size, 2, none⟩ = some (.string x.nm) := BX3.out.cell 2
        have x3_3 : w2.cell? ⟨w.heap.size, 3, none⟩ = some (.int .i64 x.ix) := BX3.out.cell 3
        have x3_4 : w2.cell? ⟨w.heap.size, 4, none⟩ = some (.int .i64 x.v.k) := BX3.out.cell 4
        have x3_5 : w2.cell? ⟨w.heap.size, 5, none⟩ = some (.int .i64 x.v.n) := BX3.out.cell 5
        have x3_6 : w2.cell? ⟨w.heap.size, 6, none⟩ = some (.string x.v.s) := BX3.out.cell 6
        have x3_7 : w2.cell? ⟨w.heap.size, 7, none⟩ = some (.slice (some ⟨b0, off, none⟩) x.args.length x.c) := BX3.out.cell 7
        have la3 : g5 < w2.heap.size := BA3.out.lt
        have lb3 : g6 < w2.heap.size := BB3.out.lt
        have lx3 : w.heap.size < w2.heap.size := BX3.out.lt
        go_wp2_with fail
        refine (I2b.out _ HB3.out).mono ?_
        rintro e w3 ⟨rfl, hb⟩
        have HB4 := Lib.hid (HB3.out.trans (hb.mono HB3.out.size))
        have BA4 := Lib.hid (BA3.out.below hb)
        have BB4 := Lib.hid (BB3.out.below hb)
        have BX4 := Lib.hid (BX3.out.below hb)
        clear hb a3_0 a3_1 a3_2 a3_3 a3_4 a3_5 a3_6 a3_7 b3_0 b3_1 b3_2 b3_3 b3_4 b3_5 b3_6 b3_7 x3_0 x3_1 x3_2 x3_3 x3_4 x3_5 x3_6 x3_7 la3 lb3 lx3
        cases i2b
        case false =>
          have HF := Lib.hid (show (-1 : Int) = r by rw [← HR.out]; simp)
          clear HR
          go_wp2
          go_ret
          exact ⟨ret_int HF.out, HB4.out⟩
        case true =>
          have HF := Lib.hid (show (3 : Int) = r by rw [← HR.out]; simp)
          clear HR
          go_wp2
          go_ret
          exact ⟨ret_int HF.out, HB4.out⟩
    case true =>
      have a2_0 : w1.cell? ⟨g5, 0, none⟩ = some (.int .i64 a.op) := BA2.out.cell 0
      have a2_1 : w1.cell? ⟨g5, 1, none⟩ = some (.string a.tb) := BA2.out.cell 1
      have a2_2 : w1.cell? ⟨g5, 2, none⟩ = some (.string a.nm) := BA2.out.cell 2
      have a2_3 : w1.cell? ⟨g5, 3, none⟩ = some (.int .i64 a.ix) := BA2.out.cell 3
      have a2_4 : w1.cell? ⟨g5, 4, none⟩ = some (.int .i64 a.v.k) := BA2.out.cell 4
      have a2_5 : w1.cell? ⟨g5, 5, none⟩ = some (.int .i64 a.v.n) := BA2.out.cell 5
      have a2_6 : w1.cell? ⟨g5, 6, none⟩ = some (.string a.v.s) := BA2.out.cell 6
      have a2_7 : w1.cell? ⟨g5, 7, none⟩ = some (.slice a.A a.args.length a.c) := BA2.out.cell 7
      have b2_0 : w1.cell? ⟨g6, 0, none⟩ = some (.int .i64 b.op) := BB2.out.cell 0
      have b2_1 : w1.cell? ⟨g6, 1, none⟩ = some (.string b.tb) := BB2.out.cell 1
      have b2_2 : w1.cell? ⟨g6, 2, none⟩ = some (.string b.nm) := BB2.out.cell 2
      have b2_3 : w1.cell? ⟨g6, 3, none⟩ = some (.int .i64 b.ix) := BB2.out.cell 3
      have b2_4 : w1.cell? ⟨g6, 4, none⟩ = some (.int .i64 b.v.k) := BB2.out.cell 4
      have b2_5 : w1.cell? ⟨g6, 5, none⟩ = some (.int .i64 b.v.n) := BB2.out.cell 5
      have b2_6 : w1.cell? ⟨g6, 6, none⟩ = some (.string b.v.s) := BB2.out.cell 6
      have b2_7 : w1.cell? ⟨g6, 7, none⟩ = some (.slice b.A b.args.length b.c) := BB2.out.cell 7
      have x2_0 : w1.cell? ⟨w.heap.size, 0, none⟩ = some (.int .i64 12) := BX2.out.cell 0
      have x2_1 : w1.cell? ⟨w.heap.size, 1, none⟩ = some (.string x.tb) := BX2.out.cell 1
      have x2_2 : w1.cell? ⟨w.heap.size, 2, none⟩ = some (.string x.nm) := BX2.out.cell 2
      have x2_3 : w1.cell? ⟨w.heap.size, 3, none⟩ = some (.int .i64 x.ix) := BX2.out.cell 3
      have x2_4 : w1.cell? ⟨w.heap.size, 4, none⟩ = some (.int .i64 x.v.k) := BX2.out.cell 4
      have x2_5 : w1.cell? ⟨w.heap.size, 5, none⟩ = some (.int .i64 x.v.n) := BX2.out.cell 5
      have x2_6 : w1.cell? ⟨w.heap.size, 6, none⟩ = some (.string x.v.s) := BX2.out.cell 6
      have x2_7 : w1.cell? ⟨w.heap.size, 7, none⟩ = some (.slice (some ⟨b0, off, none⟩) x.args.length x.c) := BX2.out.cell 7
      have la2 : g5 < w1.heap.size := BA2.out.lt
      have lb2 : g6 < w1.heap.size := BB2.out.lt
      have lx2 : w.heap.size < w1.heap.size := BX2.out.lt
      go_wp2_with fail
      refine (I1b.out _ HB2.out).mono ?_
      rintro e w2 ⟨rfl, hb⟩
      have HB3 := Lib.hid (HB2.out.trans (hb.mono HB2.out.size))
      have BA3 := Lib.hid (BA2.out.below hb)
      have BB3 := Lib.hid (BB2.out.below hb)
      have BX3 := Lib.hid (BX2.out.below hb)
      clear hb a2_0 a2_1 a2_2 a2_3 a2_4 a2_5 a2_6 a2_7 b2_0 b2_1 b2_2 b2_3 b2_4 b2_5 b2_6 b2_7 x2_0 x2_1 x2_2 x2_3 x2_4 x2_5 x2_6 x2_7 la2 lb2 lx2
      cases i1b
      case false =>
        have a3_0 : w2.cell? ⟨g5, 0, none⟩ = some (.int .i64 a.op) := BA3.out.cell 0
        have a3_1 : w2.cell? ⟨g5, 1, none⟩ = some (.string a.tb) := BA3.out.cell 1
        have a3_2 : w2.cell? ⟨g5, 2, none⟩ = some (.string a.nm) := BA3.out.cell 2
        have a3_3 : w2.cell? ⟨g5, 3, none⟩ = some (.int .i64 a.ix) := BA3.out.cell 3
        have a3_4 : w2.cell? ⟨g5, 4, none⟩ = some (.int .i64 a.v.k) := BA3.out.cell 4
        have a3_5 : w2.cell? ⟨g5, 5, none⟩ = some (.int .i64 a.v.n) := BA3.out.cell 5
        have a3_6 : w2.cell? ⟨g5, 6, none⟩ = some (.string a.v.s) := BA3.out.cell 6
        have a3_7 : w2.cell? ⟨g5, 7, none⟩ = some (.slice a.A a.args.length a.c) := BA3.out.cell 7
        have b3_0 : w2.cell? ⟨g6, 0, none⟩ = some (.int .i64 b.op) := BB3.out.cell 0
        have b3_1 : w2.cell? ⟨g6, 1, none⟩ = some (.string b.tb) := BB3.out.cell 1
        have b3_2 : w2.cell? ⟨g6, 2, none⟩ = some (.string b.nm) := BB3.out.cell 2
        have b3_3 : w2.cell? ⟨g6, 3, none⟩ = some (.int .i64 b.ix) := BB3.out.cell 3
        have b3_4 : w2.cell? ⟨g6, 4, none⟩ = some (.int .i64 b.v.k) := BB3.out.cell 4
        have b3_5 : w2.cell? ⟨g6, 5, none⟩ = some (.int .i64 b.v.n) := BB3.out.cell 5
        have b3_6 : w2.cell? ⟨g6, 6, none⟩ = some (.string b.v.s) := BB3.out.cell 6
        have b3_7 : w2.cell? ⟨g6, 7, none⟩ = some (.slice b.A b.args.length b.c) := BB3.out.cell 7
        have x3_0 : w2.cell? ⟨w.heap.size, 0, none⟩ = some (.int .i64 12) := BX3.out.cell 0
        have x3_1 : w2.cell? ⟨w.heap.size, 1, none⟩ = some (.string x.tb) := BX3.out.cell 1
        have x3_2 : w2.cell? ⟨w.heap.size, 2, none⟩ = some (.string x.nm) := BX3.out.cell 2
        have x3_3 : w2.cell? ⟨w.heap.size, 3, none⟩ = some (.int .i64 x.ix) := BX3.out.cell 3
        have x3_4 : w2.cell? ⟨w.heap.size, 4, none⟩ = some (.int .i64 x.v.k) := BX3.out.cell 4
        have x3_5 : w2.cell? ⟨w.heap.size, 5, none⟩ = some (.int .i64 x.v.n) := BX3.out.cell 5
        have x3_6 : w2.cell? ⟨w.heap.size, 6, none⟩ = some (.string x.v.s) := BX3.out.cell 6
        have x3_7 : w2.cell? ⟨w.heap.size, 7, none⟩ = some (.slice (some ⟨b0, off, none⟩) x.args.length x.c) := BX3.out.cell 7
        have la3 : g5 < w2.heap.size := BA3.out.lt
        have lb3 : g6 < w2.heap.size := BB3.out.lt
        have lx3 : w.heap.size < w2.heap.size := BX3.out.lt
        go_wp2_with fail
        refine (I2a.out _ HB3.out).mono ?_
        rintro e w3 ⟨rfl, hb⟩
        have HB4 := Lib.hid (HB3.out.trans (hb.mono HB3.out.size))
        have BA4 := Lib.hid (BA3.out.below hb)
        have BB4 := Lib.hid (BB3.out.below hb)
        have BX4 := Lib.hid (BX3.out.below hb)
        clear hb a3_0 a3_1 a3_2 a3_3 a3_4 a3_5 a3_6 a3_7 b3_0 b3_1 b3_2 b3_3 b3_4 b3_5 b3_6 b3_7 x3_0 x3_1 x3_2 x3_3 x3_4 x3_5 x3_6 x3_7 la3 lb3 lx3
        cases i2a
        case false =>
          have HF := Lib.hid (show (-1 : Int) = r by rw [← HR.out]; simp)
          clear HR
          go_wp2
          go_ret
          exact ⟨ret_int HF.out, HB4.out⟩
        case true =>
          have a4_0 : w3.cell? ⟨g5, 0, none⟩ = some (.int .i64 a.op) := BA4.out.cell 0
          have a4_1 : w3.cell? ⟨g5, 1, none⟩ = some (.string a.tb) := BA4.out.cell 1
          have a4_2 : w3.cell? ⟨g5, 2, none⟩ = some (.string a.nm) := BA4.out.cell 2
          have a4_3 : w3.cell? ⟨g5, 3, none⟩ = some (.int .i64 a.ix) := BA4.out.cell 3
          have a4_4 : w3.cell? ⟨g5, 4, none⟩ = some (.int .i64 a.v.k) := BA4.out.cell 4
          have a4_5 : w3.cell? ⟨g5, 5, none⟩ = some (.int .i64 a.v.n) := BA4.out.cell 5
          have a4_6 : w3.cell? ⟨g5, 6, none⟩ = some (.string a.v.s) := BA4.out.cell 6
          have a4_7 : w3.cell? ⟨g5, 7, none⟩ = some (.slice a.A a.args.length a.c) := BA4.out.cell 7
          have b4_0 : w3.cell? ⟨g6, 0, none⟩ = some (.int .i64 b.op) := BB4.out.cell 0
          have b4_1 : w3.cell? ⟨g6, 1, none⟩ = some (.string b.tb) := BB4.out.cell 1
          have b4_2 : w3.cell? ⟨g6, 2, none⟩ = some (.string b.nm) := BB4.out.cell 2
          have b4_3 : w3.cell? ⟨g6, 3, none⟩ = some (.int .i64 b.ix) := BB4.out.cell 3
          have b4_4 : w3.cell? ⟨g6, 4, none⟩ = some (.int .i64 b.v.k) := BB4.out.cell 4
          have b4_5 : w3.cell? ⟨g6, 5, none⟩ = some (.int .i64 b.v.n) := BB4.out.cell 5
          have b4_6 : w3.cell? ⟨g6, 6, none⟩ = some (.string b.v.s) := BB4.out.cell 6
          have b4_7 : w3.cell? ⟨g6, 7, none⟩ = some (.slice b.A b.args.length b.c) := BB4.out.cell 7
          have x4_0 : w3.cell? ⟨w.heap.size, 0, none⟩ = some (.int .i64 12) := BX4.out.cell 0
          have x4_1 : w3.cell? ⟨w.heap.size, 1, none⟩ = some (.string x.tb) := BX4.out.cell 1
          have x4_2 : w3.cell? ⟨w.heap.size, 2, none⟩ = some (.string x.nm) := BX4.out.cell 2
          have x4_3 : w3.cell? ⟨w.heap.size, 3, none⟩ = some (.int .i64 x.ix) := BX4.out.cell 3
          have x4_4 : w3.cell? ⟨w.heap.size, 4, none⟩ = some (.int .i64 x.v.k) := BX4.out.cell 4
          have x4_5 : w3.cell? ⟨w.heap.size, 5, none⟩ = some (.int .i64 x.v.n) := BX4.out.cell 5
          have x4_6 : w3.cell? ⟨w.heap.size, 6, none⟩ = some (.string x.v.s) := BX4.out.cell 6
          have x4_7 : w3.cell? ⟨w.heap.size, 7, none⟩ = some (.slice (some ⟨b0, off, none⟩) x.args.length x.c) := BX4.out.cell 7
          have la4 : g5 < w3.heap.size := BA4.out.lt
          have lb4 : g6 < w3.heap.size := BB4.out.lt
          have lx4 : w.heap.size < w3.heap.size := BX4.out.lt
          go_wp2_with fail
          refine (I2b.out _ HB4.out).mono ?_
          rintro e w4 ⟨rfl, hb⟩
          have HB5 := Lib.hid (HB4.out.trans (hb.mono HB4.out.size))
          have BA5 := Lib.hid (BA4.out.below hb)
          have BB5 := Lib.hid (BB4.out.below hb)
          have BX5 := Lib.hid (BX4.out.below hb)
          clear hb a4_0 a4_1 a4_2 a4_3 a4_4 a4_5 a4_6 a4_7 b4_0 b4_1 b4_2 b4_3 b4_4 b4_5 b4_6 b4_7 x4_0 x4_1 x4_2 x4_3 x4_4 x4_5 x4_6 x4_7 la4 lb4 lx4
          cases i2b
          case false =>
            have HF := Lib.hid (show (-1 : Int) = r by rw [← HR.out]; simp)
            clear HR
            go_wp2
            go_ret
            exact ⟨ret_int HF.out, HB5.out⟩
          case true =>
            have HF := Lib.hid (show (3 : Int) = r by rw [← HR.out]; simp)
            clear HR
            go_wp2
            go_ret
            exact ⟨ret_int HF.out, HB5.out⟩
      case true =>
        have HF := Lib.hid (show (3 : Int) = r by rw [← HR.out]; simp)
        clear HR
        go_wp2
        go_ret
        exact ⟨ret_int HF.out, HB3.out⟩
set_option maxRecDepth 100000 in
set_option maxHeartbeats 4000000 in
theorem ty2_13 (L : List Va) (V : Value) (x a b : Ex) (hargs : x.args = [a, b]) (hop : x.op = 13) (w : World) (h : ExAt w x) (Ha : TyAt L V a w) (Hb : TyAt L V b w) : Calls Try.prog 52 #[x.agg, V] w fun e w' => e = .returned (.int .i64 (biT 13 a b (tyM L a) (tyM L b))) ∧ Below w.heap.size w w' := by
  have I1a := Lib.hid (fun W (hW : Below w.heap.size w W) => is_any L V a 1 W (Ha.keep hW))
  have I1b := Lib.hid (fun W (hW : Below w.heap.size w W) => is_any L V b 1 W (Hb.keep hW))
  have I2a := Lib.hid (fun W (hW : Below w.heap.size w W) => is_any L V a 2 W (Ha.keep hW))
  have I2b := Lib.hid (fun W (hW : Below w.heap.size w W) => is_any L V b 2 W (Hb.keep hW))
  have hx0 : 0 < x.args.length := by rw [hargs]; exact Nat.zero_lt_succ _
  have hx1 : 1 < x.args.length := by rw [hargs]; exact Nat.lt_succ_self _
  have hx1i : (1 : Int) < (x.args.length : Int) := by omega
  have e1 : ((x.args.length : Int) == 2) = true := by rw [hargs]; rfl
  have e2 : ((x.args.length : Int) != 2) = false := by rw [hargs]; rfl
  obtain ⟨b0, off, hA, hbl, hc⟩ := h.at' hx0
  have HC := Lib.hid (fun W hW => hc W hW 0 a (by rw [hargs]; rfl))
  have HD := Lib.hid (fun W hW => hc W hW 1 b (by rw [hargs]; rfl))
  simp only [Nat.zero_mul, Nat.add_zero, Nat.one_mul, Nat.add_assoc, Nat.reduceAdd] at HC HD
  unfold TyAt at Ha Hb
  obtain ⟨s, hs⟩ : ∃ u, tyM L a = u := ⟨_, rfl⟩
  obtain ⟨t, ht⟩ : ∃ u, tyM L b = u := ⟨_, rfl⟩
  simp only [hs, ht] at I1a I1b I2a I2b ⊢
  obtain ⟨i1a, hi1a⟩ : ∃ u, isC s 1 = u := ⟨_, rfl⟩
  obtain ⟨i1b, hi1b⟩ : ∃ u, isC t 1 = u := ⟨_, rfl⟩
  obtain ⟨i2a, hi2a⟩ : ∃ u, isC s 2 = u := ⟨_, rfl⟩
  obtain ⟨i2b, hi2b⟩ : ∃ u, isC t 2 = u := ⟨_, rfl⟩
  obtain ⟨r, hr⟩ : ∃ r, biT 13 a b s t = r := ⟨_, rfl⟩
  rw [hr]
  have hr1 : biT 13 a b s t = r := hr
  unfold biT at hr1
  rw [if_neg (by decide), if_pos (by decide)] at hr1
  simp only [hi1a, hi1b, hi2a, hi2b] at hr1 I1a I1b I2a I2b
  have HR := Lib.hid (show (if ((i1a && i1b) || (i2a && i2b)) = true then 3 else -1) = r from hr1)
  unfold Ex.agg at *
  rw [hop, hA]
  have hbw : b0 < w.heap.size := hbl
  clear hr hr1 hc hbl hi1a hi1b hi2a hi2b hs ht h hargs hop hA Ha Hb
  obtain ⟨W0, hW0⟩ : ∃ W, W = w.alloc (.cells #[.int .i64 13, .string x.tb, .string x.nm, .int .i64 x.ix, .int .i64 x.v.k, .int .i64 x.v.n, .string x.v.s, .slice (some ⟨b0, off, none⟩) x.args.length x.c] 26) := ⟨_, rfl⟩
  have HB := Lib.hid (show Below w.heap.size w W0 by rw [hW0]; exact (Below.refl _ w).alloc (Nat.le_refl _) _)
  have K2 := Lib.hid (show Blk W0 w.heap.size 26 #[.int .i64 13, .string x.tb, .string x.nm, .int .i64 x.ix, .int .i64 x.v.k, .int .i64 x.v.n, .string x.v.s, .slice (some ⟨b0, off, none⟩) x.args.length x.c] by rw [hW0]; exact Blk.new _ _ _)
  have hl0 : w.heap.size < W0.heap.size := K2.out.lt
  have hb1 : b0 < W0.heap.size := by omega
  obtain ⟨c0, c1, c2, c3, c4, c5, c6, c7⟩ := HC.out _ HB.out
  obtain ⟨d0, d1, d2, d3, d4, d5, d6, d7⟩ := HD.out _ HB.out
  have k0 : W0.cell? ⟨w.heap.size, 0, none⟩ = some (.int .i64 13) := K2.out.cell 0
  have k7 : W0.cell? ⟨w.heap.size, 7, none⟩ = some (.slice (some ⟨b0, off, none⟩) x.args.length x.c) := K2.out.cell 7
  go_enter Try.func52, Try.ntmps52
  go_upto_region 1 with fail
  rw [← hW0]
  clear hW0
  go_upto_region 17 with fail
  go_cut [5, 6] from 7 (fun s5 s6 wx => ∃ g5 g6 : Nat, s5 = .pointer (some ⟨g5, 0, none⟩) ∧ s6 = .pointer (some ⟨g6, 0, none⟩) ∧ Blk wx g5 26 #[.int .i64 a.op, .string a.tb, .string a.nm, .int .i64 a.ix, .int .i64 a.v.k, .int .i64 a.v.n, .string a.v.s, .slice a.A a.args.length a.c] ∧ Blk wx g6 26 #[.int .i64 b.op, .string b.tb, .string b.nm, .int .i64 b.ix, .int .i64 b.v.k, .int .i64 b.v.n, .string b.v.s, .slice b.A b.args.length b.c] ∧ Below W0.heap.size W0 wx)
  case first =>
    go_region
    · go_wp2_with fail
      go_meet
      case rel => exact ⟨_, _, rfl, rfl, ((Blk.new _ _ _).alloc _).drew, (Blk.new_ (by simp) rfl : Blk ((W0.alloc _).alloc _) _ _ _).drew, below_drew (((Below.refl _ W0).alloc (Nat.le_refl _) _).alloc (by simp) _)⟩
    · go_wp2_with fail
      go_meet
      case rel => exact ⟨_, _, rfl, rfl, (Blk.new_ (by simp) rfl : Blk ((W0.alloc _).alloc _) _ _ _).drew, ((Blk.new _ _ _).alloc _).drew, below_drew (((Below.refl _ W0).alloc (Nat.le_refl _) _).alloc (by simp) _)⟩
  case rest =>
    obtain ⟨g5, g6, rfl, rfl, BA1, BB1, hW⟩ := hcut
    clear c0 c1 c2 c3 c4 c5 c6 c7 d0 d1 d2 d3 d4 d5 d6 d7 k0 k7
    have HB1 := Lib.hid (HB.out.trans (hW.mono HB.out.size))
    have BA1 := Lib.hid BA1
    have BB1 := Lib.hid BB1
    have BX1 := Lib.hid (K2.out.below hW)
    clear hW K2 HB HC HD
    have a1_0 : wc.cell? ⟨g5, 0, none⟩ = some (.int .i64 a.op) := BA1.out.cell 0
    have a1_1 : wc.cell? ⟨g5, 1, none⟩ = some (.string a.tb) := BA1.out.cell 1
    have a1_2 : wc.cell? ⟨g5, 2, none⟩ = some (.string a.nm) := BA1.out.cell 2
    have a1_3 : wc.cell? ⟨g5, 3, none⟩ = some (.int .i64 a.ix) := BA1.out.cell 3
    have a1_4 : wc.cell? ⟨g5, 4, none⟩ = some (.int .i64 a.v.k) := BA1.out.cell 4
    have a1_5 : wc.cell? ⟨g5, 5, none⟩ = some (.int .i64 a.v.n) := BA1.out.cell 5
    have a1_6 : wc.cell? ⟨g5, 6, none⟩ = some (.string a.v.s) := BA1.out.cell 6
    have a1_7 : wc.cell? ⟨g5, 7, none⟩ = some (.slice a.A a.args.length a.c) := BA1.out.cell 7
    have b1_0 : wc.cell? ⟨g6, 0, none⟩ = some (.int .i64 b.op) := BB1.out.cell 0
    have b1_1 : wc.cell? ⟨g6, 1, none⟩ = some (.string b.tb) := BB1.out.cell 1
    have b1_2 : wc.cell? ⟨g6, 2, none⟩ = some (.string b.nm) := BB1.out.cell 2
    have b1_3 : wc.cell? ⟨g6, 3, none⟩ = some (.int .i64 b.ix) := BB1.out.cell 3
    have b1_4 : wc.cell? ⟨g6, 4, none⟩ = some (.int .i64 b.v.k) := BB1.out.cell 4
    have b1_5 : wc.cell? ⟨g6, 5, none⟩ = some (.int .i64 b.v.n) := BB1.out.cell 5
    have b1_6 : wc.cell? ⟨g6, 6, none⟩ = some (.string b.v.s) := BB1.out.cell 6
    have b1_7 : wc.cell? ⟨g6, 7, none⟩ = some (.slice b.A b.args.length b.c) := BB1.out.cell 7
    have x1_0 : wc.cell? ⟨w.heap.size, 0, none⟩ = some (.int .i64 13) := BX1.out.cell 0
    have x1_1 : wc.cell? ⟨w.heap.size, 1, none⟩ = some (.string x.tb) := BX1.out.cell 1
    have x1_2 : wc.cell? ⟨w.heap.size, 2, none⟩ = some (.string x.nm) := BX1.out.cell 2
    have x1_3 : wc.cell? ⟨w.heap.size, 3, none⟩ = some (.int .i64 x.ix) := BX1.out.cell 3
    have x1_4 : wc.cell? ⟨w.heap.size, 4, none⟩ = some (.int .i64 x.v.k) := BX1.out.cell 4
    have x1_5 : wc.cell? ⟨w.heap.size, 5, none⟩ = some (.int .i64 x.v.n) := BX1.out.cell 5
    have x1_6 : wc.cell? ⟨w.heap.size, 6, none⟩ = some (.string x.v.s) := BX1.out.cell 6
    have x1_7 : wc.cell? ⟨w.heap.size, 7, none⟩ = some (.slice (some ⟨b0, off, none⟩) x.args.length x.c) := BX1.out.cell 7
    have la1 : g5 < wc.heap.size := BA1.out.lt
    have lb1 : g6 < wc.heap.size := BB1.out.lt
    have lx1 : w.heap.size < wc.heap.size := BX1.out.lt
    go_wp2_with fail
    refine (I1a.out _ HB1.out).mono ?_
    rintro e w1 ⟨rfl, hb⟩
    have HB2 := Lib.hid (HB1.out.trans (hb.mono HB1.out.size))
    have BA2 := Lib.hid (BA1.out.below hb)
    have BB2 := Lib.hid (BB1.out.below hb)
    have BX2 := Lib.hid (BX1.out.below hb)
    clear hb a1_0 a1_1 a1_2 a1_3 a1_4 a1_5 a1_6 a1_7 b1_0 b1_1 b1_2 b1_3 b1_4 b1_5 b1_6 b1_7 x1_0 x1_1 x1_2 x1_3 x1_4 x1_5 x1_6 x1_7 la1 lb1 lx1
    cases i1a
    case false =>
      have a2_0 : w1.cell? ⟨g5, 0, none⟩ = some (.int .i64 a.op) := BA2.out.cell 0
      have a2_1 : w1.cell? ⟨g5, 1, none⟩ = some (.string a.tb) := BA2.out.cell 1
      have a2_2 : w1.cell? ⟨g5, 2, none⟩ = some (.string a.nm) := BA2.out.cell 2
      have a2_3 : w1.cell? ⟨g5, 3, none⟩ = some (.int .i64 a.ix) := BA2.out.cell 3
      have a2_4 : w1.cell? ⟨g5, 4, none⟩ = some (.int .i64 a.v.k) := BA2.out.cell 4
      have a2_5 : w1.cell? ⟨g5, 5, none⟩ = some (.int .i64 a.v.n) := BA2.out.cell 5
      have a2_6 : w1.cell? ⟨g5, 6, none⟩ = some (.string a.v.s) := BA2.out.cell 6
      have a2_7 : w1.cell? ⟨g5, 7, none⟩ = some (.slice a.A a.args.length a.c) := BA2.out.cell 7
      have b2_0 : w1.cell? ⟨g6, 0, none⟩ = some (.int .i64 b.op) := BB2.out.cell 0
      have b2_1 : w1.cell? ⟨g6, 1, none⟩ = some (.string b.tb) := BB2.out.cell 1
      have b2_2 : w1.cell? ⟨g6, 2, none⟩ = some (.string b.nm) := BB2.out.cell 2
      have b2_3 : w1.cell? ⟨g6, 3, none⟩ = some (.int .i64 b.ix) := BB2.out.cell 3
      have b2_4 : w1.cell? ⟨g6, 4, none⟩ = some (.int .i64 b.v.k) := BB2.out.cell 4
      have b2_5 : w1.cell? ⟨g6, 5, none⟩ = some (.int .i64 b.v.n) := BB2.out.cell 5
      have b2_6 : w1.cell? ⟨g6, 6, none⟩ = some (.string b.v.s) := BB2.out.cell 6
      have b2_7 : w1.cell? ⟨g6, 7, none⟩ = some (.slice b.A b.args.length b.c) := BB2.out.cell 7
      have x2_0 : w1.cell? ⟨w.heap.size, 0, none⟩ = some (.int .i64 13) := BX2.out.cell 0
      have x2_1 : w1.cell? ⟨w.heap.size, 1, none⟩ = some (.string x.tb) := BX2.out.cell 1
      have x2_2 : w1.cell? ⟨w.heap.size, 2, none⟩ = some (.string x.nm) := BX2.out.cell 2
      have x2_3 : w1.cell? ⟨w.heap.size, 3, none⟩ = some (.int .i64 x.ix) := BX2.out.cell 3
      have x2_4 : w1.cell? ⟨w.heap.size, 4, none⟩ = some (.int .i64 x.v.k) := BX2.out.cell 4
      have x2_5 : w1.cell? ⟨w.heap.size, 5, none⟩ = some (.int .i64 x.v.n) := BX2.out.cell 5
      have x2_6 : w1.cell? ⟨w.heap.size, 6, none⟩ = some (.string x.v.s) := BX2.out.cell 6
      have x2_7 : w1.cell? ⟨w.heap.size, 7, none⟩ = some (.slice (some ⟨b0, off, none⟩) x.args.length x.c) := BX2.out.cell 7
      have la2 : g5 < w1.heap.size := BA2.out.lt
      have lb2 : g6 < w1.heap.size := BB2.out.lt
      have lx2 : w.heap.size < w1.heap.size := BX2.out.lt
      go_wp2_with fail
      refine (I2a.out _ HB2.out).mono ?_
      rintro e w2 ⟨rfl, hb⟩
      have HB3 := Lib.hid (HB2.out.trans (hb.mono HB2.out.size))
      have BA3 := Lib.hid (BA2.out.below hb)
      have BB3 := Lib.hid (BB2.out.below hb)
      have BX3 := Lib.hid (BX2.out.below hb)
      clear hb a2_0 a2_1 a2_2 a2_3 a2_4 a2_5 a2_6 a2_7 b2_0 b2_1 b2_2 b2_3 b2_4 b2_5 b2_6 b2_7 x2_0 x2_1 x2_2 x2_3 x2_4 x2_5 x2_6 x2_7 la2 lb2 lx2
      cases i2a
      case false =>
        have HF := Lib.hid (show (-1 : Int) = r by rw [← HR.out]; simp)
        clear HR
        go_wp2
        go_ret
        exact ⟨ret_int HF.out, HB3.out⟩
      case true =>
        have a3_0 : w2.cell? ⟨g5, 0, none⟩ = some (.int .i64 a.op) := BA3.out.cell 0
        have a3_1 : w2.cell? ⟨g5, 1, none⟩ = some (.string a.tb) := BA3.out.cell 1
        have a3_2 : w2.cell? ⟨g5, 2, none⟩ = some (.string a.nm) := BA3.out.cell 2
        have a3_3 : w2.cell? ⟨g5, 3, none⟩ = some (.int .i64 a.ix) := BA3.out.cell 3
        have a3_4 : w2.cell? ⟨g5, 4, none⟩ = some (.int .i64 a.v.k) := BA3.out.cell 4
        have a3_5 : w2.cell? ⟨g5, 5, none⟩ = some (.int .i64 a.v.n) := BA3.out.cell 5
        have a3_6 : w2.cell? ⟨g5, 6, none⟩ = some (.string a.v.s) := BA3.out.cell 6
        have a3_7 : w2.cell? ⟨g5, 7, none⟩ = some (.slice a.A a.args.length a.c) := BA3.out.cell 7
        have b3_0 : w2.cell? ⟨g6, 0, none⟩ = some (.int .i64 b.op) := BB3.out.cell 0
        have b3_1 : w2.cell? ⟨g6, 1, none⟩ = some (.string b.tb) := BB3.out.cell 1
        have b3_2 : w2.cell? ⟨g6, 2, none⟩ = some (.string b.nm) := BB3.out.cell 2
        have b3_3 : w2.cell? ⟨g6, 3, none⟩ = some (.int .i64 b.ix) := BB3.out.cell 3
        have b3_4 : w2.cell? ⟨g6, 4, none⟩ = some (.int .i64 b.v.k) := BB3.out.cell 4
        have b3_5 : w2.cell? ⟨g6, 5, none⟩ = some (.int .i64 b.v.n) := BB3.out.cell 5
        have b3_6 : w2.cell? ⟨g6, 6, none⟩ = some (.string b.v.s) := BB3.out.cell 6
        have b3_7 : w2.cell? ⟨g6, 7, none⟩ = some (.slice b.A b.args.length b.c) := BB3.out.cell 7
        have x3_0 : w2.cell? ⟨w.heap.size, 0, none⟩ = some (.int .i64 13) := BX3.out.cell 0
        have x3_1 : w2.cell? ⟨w.heap.size, 1, none⟩ = some (.string x.tb) := BX3.out.cell 1
        have x3_2 : w2.cell? ⟨w.heap.size, 2, none⟩ = some (.string x.nm) := BX3.out.cell 2
        have x3_3 : w2.cell? ⟨w.heap.size, 3, none⟩ = some (.int .i64 x.ix) := BX3.out.cell 3
        have x3_4 : w2.cell? ⟨w.heap.size, 4, none⟩ = some (.int .i64 x.v.k) := BX3.out.cell 4
        have x3_5 : w2.cell? ⟨w.heap.size, 5, none⟩ = some (.int .i64 x.v.n) := BX3.out.cell 5
        have x3_6 : w2.cell? ⟨w.heap.size, 6, none⟩ = some (.string x.v.s) := BX3.out.cell 6
        have x3_7 : w2.cell? ⟨w.heap.size, 7, none⟩ = some (.slice (some ⟨b0, off, none⟩) x.args.length x.c) := BX3.out.cell 7
        have la3 : g5 < w2.heap.size := BA3.out.lt
        have lb3 : g6 < w2.heap.size := BB3.out.lt
        have lx3 : w.heap.size < w2.heap.size := BX3.out.lt
        go_wp2_with fail
        refine (I2b.out _ HB3.out).mono ?_
        rintro e w3 ⟨rfl, hb⟩
        have HB4 := Lib.hid (HB3.out.trans (hb.mono HB3.out.size))
        have BA4 := Lib.hid (BA3.out.below hb)
        have BB4 := Lib.hid (BB3.out.below hb)
        have BX4 := Lib.hid (BX3.out.below hb)
        clear hb a3_0 a3_1 a3_2 a3_3 a3_4 a3_5 a3_6 a3_7 b3_0 b3_1 b3_2 b3_3 b3_4 b3_5 b3_6 b3_7 x3_0 x3_1 x3_2 x3_3 x3_4 x3_5 x3_6 x3_7 la3 lb3 lx3
        cases i2b
        case false =>
          have HF := Lib.hid (show (-1 : Int) = r by rw [← HR.out]; simp)
          clear HR
          go_wp2
          go_ret
          exact ⟨ret_int HF.out, HB4.out⟩
        case true =>
          have HF := Lib.hid (show (3 : Int) = r by rw [← HR.out]; simp)
          clear HR
          go_wp2
          go_ret
          exact ⟨ret_int HF.out, HB4.out⟩
    case true =>
      have a2_0 : w1.cell? ⟨g5, 0, none⟩ = some (.int .i64 a.op) := BA2.out.cell 0
      have a2_1 : w1.cell? ⟨g5, 1, none⟩ = some (.string a.tb) := BA2.out.cell 1
      have a2_2 : w1.cell? ⟨g5, 2, none⟩ = some (.string a.nm) := BA2.out.cell 2
      have a2_3 : w1.cell? ⟨g5, 3, none⟩ = some (.int .i64 a.ix) := BA2.out.cell 3
      have a2_4 : w1.cell? ⟨g5, 4, none⟩ = some (.int .i64 a.v.k) := BA2.out.cell 4
      have a2_5 : w1.cell? ⟨g5, 5, none⟩ = some (.int .i64 a.v.n) := BA2.out.cell 5
      have a2_6 : w1.cell? ⟨g5, 6, none⟩ = some (.string a.v.s) := BA2.out.cell 6
      have a2_7 : w1.cell? ⟨g5, 7, none⟩ = some (.slice a.A a.args.length a.c) := BA2.out.cell 7
      have b2_0 : w1.cell? ⟨g6, 0, none⟩ = some (.int .i64 b.op) := BB2.out.cell 0
      have b2_1 : w1.cell? ⟨g6, 1, none⟩ = some (.string b.tb) := BB2.out.cell 1
      have b2_2 : w1.cell? ⟨g6, 2, none⟩ = some (.string b.nm) := BB2.out.cell 2
      have b2_3 : w1.cell? ⟨g6, 3, none⟩ = some (.int .i64 b.ix) := BB2.out.cell 3
      have b2_4 : w1.cell? ⟨g6, 4, none⟩ = some (.int .i64 b.v.k) := BB2.out.cell 4
      have b2_5 : w1.cell? ⟨g6, 5, none⟩ = some (.int .i64 b.v.n) := BB2.out.cell 5
      have b2_6 : w1.cell? ⟨g6, 6, none⟩ = some (.string b.v.s) := BB2.out.cell 6
      have b2_7 : w1.cell? ⟨g6, 7, none⟩ = some (.slice b.A b.args.length b.c) := BB2.out.cell 7
      have x2_0 : w1.cell? ⟨w.heap.size, 0, none⟩ = some (.int .i64 13) := BX2.out.cell 0
      have x2_1 : w1.cell? ⟨w.heap.size, 1, none⟩ = some (.string x.tb) := BX2.out.cell 1
      have x2_2 : w1.cell? ⟨w.heap.size, 2, none⟩ = some (.string x.nm) := BX2.out.cell 2
      have x2_3 : w1.cell? ⟨w.heap.size, 3, none⟩ = some (.int .i64 x.ix) := BX2.out.cell 3
      have x2_4 : w1.cell? ⟨w.heap.size, 4, none⟩ = some (.int .i64 x.v.k) := BX2.out.cell 4
      have x2_5 : w1.cell? ⟨w.heap.size, 5, none⟩ = some (.int .i64 x.v.n) := BX2.out.cell 5
      have x2_6 : w1.cell? ⟨w.heap.size, 6, none⟩ = some (.string x.v.s) := BX2.out.cell 6
      have x2_7 : w1.cell? ⟨w.heap.size, 7, none⟩ = some (.slice (some ⟨b0, off, none⟩) x.args.length x.c) := BX2.out.cell 7
      have la2 : g5 < w1.heap.size := BA2.out.lt
      have lb2 : g6 < w1.heap.size := BB2.out.lt
      have lx2 : w.heap.size < w1.heap.size := BX2.out.lt
      go_wp2_with fail
      refine (I1b.out _ HB2.out).mono ?_
      rintro e w2 ⟨rfl, hb⟩
      have HB3 := Lib.hid (HB2.out.trans (hb.mono HB2.out.size))
      have BA3 := Lib.hid (BA2.out.below hb)
      have BB3 := Lib.hid (BB2.out.below hb)
      have BX3 := Lib.hid (BX2.out.below hb)
      clear hb a2_0 a2_1 a2_2 a2_3 a2_4 a2_5 a2_6 a2_7 b2_0 b2_1 b2_2 b2_3 b2_4 b2_5 b2_6 b2_7 x2_0 x2_1 x2_2 x2_3 x2_4 x2_5 x2_6 x2_7 la2 lb2 lx2
      cases i1b
      case false =>
        have a3_0 : w2.cell? ⟨g5, 0, none⟩ = some (.int .i64 a.op) := BA3.out.cell 0
        have a3_1 : w2.cell? ⟨g5, 1, none⟩ = some (.string a.tb) := BA3.out.cell 1
        have a3_2 : w2.cell? ⟨g5, 2, none⟩ = some (.string a.nm) := BA3.out.cell 2
        have a3_3 : w2.cell? ⟨g5, 3, none⟩ = some (.int .i64 a.ix) := BA3.out.cell 3
        have a3_4 : w2.cell? ⟨g5, 4, none⟩ = some (.int .i64 a.v.k) := BA3.out.cell 4
        have a3_5 : w2.cell? ⟨g5, 5, none⟩ = some (.int .i64 a.v.n) := BA3.out.cell 5
        have a3_6 : w2.cell? ⟨g5, 6, none⟩ = some (.string a.v.s) := BA3.out.cell 6
        have a3_7 : w2.cell? ⟨g5, 7, none⟩ = some (.slice a.A a.args.length a.c) := BA3.out.cell 7
        have b3_0 : w2.cell? ⟨g6, 0, none⟩ = some (.int .i64 b.op) := BB3.out.cell 0
        have b3_1 : w2.cell? ⟨g6, 1, none⟩ = some (.string b.tb) := BB3.out.cell 1
        have b3_2 : w2.cell? ⟨g6, 2, none⟩ = some (.string b.nm) := BB3.out.cell 2
        have b3_3 : w2.cell? ⟨g6, 3, none⟩ = some (.int .i64 b.ix) := BB3.out.cell 3
        have b3_4 : w2.cell? ⟨g6, 4, none⟩ = some (.int .i64 b.v.k) := BB3.out.cell 4
        have b3_5 : w2.cell? ⟨g6, 5, none⟩ = some (.int .i64 b.v.n) := BB3.out.cell 5
        have b3_6 : w2.cell? ⟨g6, 6, none⟩ = some (.string b.v.s) := BB3.out.cell 6
        have b3_7 : w2.cell? ⟨g6, 7, none⟩ = some (.slice b.A b.args.length b.c) := BB3.out.cell 7
        have x3_0 : w2.cell? ⟨w.heap.size, 0, none⟩ = some (.int .i64 13) := BX3.out.cell 0
        have x3_1 : w2.cell? ⟨w.heap.size, 1, none⟩ = some (.string x.tb) := BX3.out.cell 1
        have x3_2 : w2.cell? ⟨w.heap.size, 2, none⟩ = some (.string x.nm) := BX3.out.cell 2
        have x3_3 : w2.cell? ⟨w.heap.size, 3, none⟩ = some (.int .i64 x.ix) := BX3.out.cell 3
        have x3_4 : w2.cell? ⟨w.heap.size, 4, none⟩ = some (.int .i64 x.v.k) := BX3.out.cell 4
        have x3_5 : w2.cell? ⟨w.heap.size, 5, none⟩ = some (.int .i64 x.v.n) := BX3.out.cell 5
        have x3_6 : w2.cell? ⟨w.heap.size, 6, none⟩ = some (.string x.v.s) := BX3.out.cell 6
        have x3_7 : w2.cell? ⟨w.heap.size, 7, none⟩ = some (.slice (some ⟨b0, off, none⟩) x.args.length x.c) := BX3.out.cell 7
        have la3 : g5 < w2.heap.size := BA3.out.lt
        have lb3 : g6 < w2.heap.size := BB3.out.lt
        have lx3 : w.heap.size < w2.heap.size := BX3.out.lt
        go_wp2_with fail
        refine (I2a.out _ HB3.out).mono ?_
        rintro e w3 ⟨rfl, hb⟩
        have HB4 := Lib.hid (HB3.out.trans (hb.mono HB3.out.size))
        have BA4 := Lib.hid (BA3.out.below hb)
        have BB4 := Lib.hid (BB3.out.below hb)
        have BX4 := Lib.hid (BX3.out.below hb)
        clear hb a3_0 a3_1 a3_2 a3_3 a3_4 a3_5 a3_6 a3_7 b3_0 b3_1 b3_2 b3_3 b3_4 b3_5 b3_6 b3_7 x3_0 x3_1 x3_2 x3_3 x3_4 x3_5 x3_6 x3_7 la3 lb3 lx3
        cases i2a
        case false =>
          have HF := Lib.hid (show (-1 : Int) = r by rw [← HR.out]; simp)
          clear HR
          go_wp2
          go_ret
          exact ⟨ret_int HF.out, HB4.out⟩
        case true =>
          have a4_0 : w3.cell? ⟨g5, 0, none⟩ = some (.int .i64 a.op) := BA4.out.cell 0
          have a4_1 : w3.cell? ⟨g5, 1, none⟩ = some (.string a.tb) := BA4.out.cell 1
          have a4_2 : w3.cell? ⟨g5, 2, none⟩ = some (.string a.nm) := BA4.out.cell 2
          have a4_3 : w3.cell? ⟨g5, 3, none⟩ = some (.int .i64 a.ix) := BA4.out.cell 3
          have a4_4 : w3.cell? ⟨g5, 4, none⟩ = some (.int .i64 a.v.k) := BA4.out.cell 4
          have a4_5 : w3.cell? ⟨g5, 5, none⟩ = some (.int .i64 a.v.n) := BA4.out.cell 5
          have a4_6 : w3.cell? ⟨g5, 6, none⟩ = some (.string a.v.s) := BA4.out.cell 6
          have a4_7 : w3.cell? ⟨g5, 7, none⟩ = some (.slice a.A a.args.length a.c) := BA4.out.cell 7
          have b4_0 : w3.cell? ⟨g6, 0, none⟩ = some (.int .i64 b.op) := BB4.out.cell 0
          have b4_1 : w3.cell? ⟨g6, 1, none⟩ = some (.string b.tb) := BB4.out.cell 1
          have b4_2 : w3.cell? ⟨g6, 2, none⟩ = some (.string b.nm) := BB4.out.cell 2
          have b4_3 : w3.cell? ⟨g6, 3, none⟩ = some (.int .i64 b.ix) := BB4.out.cell 3
          have b4_4 : w3.cell? ⟨g6, 4, none⟩ = some (.int .i64 b.v.k) := BB4.out.cell 4
          have b4_5 : w3.cell? ⟨g6, 5, none⟩ = some (.int .i64 b.v.n) := BB4.out.cell 5
          have b4_6 : w3.cell? ⟨g6, 6, none⟩ = some (.string b.v.s) := BB4.out.cell 6
          have b4_7 : w3.cell? ⟨g6, 7, none⟩ = some (.slice b.A b.args.length b.c) := BB4.out.cell 7
          have x4_0 : w3.cell? ⟨w.heap.size, 0, none⟩ = some (.int .i64 13) := BX4.out.cell 0
          have x4_1 : w3.cell? ⟨w.heap.size, 1, none⟩ = some (.string x.tb) := BX4.out.cell 1
          have x4_2 : w3.cell? ⟨w.heap.size, 2, none⟩ = some (.string x.nm) := BX4.out.cell 2
          have x4_3 : w3.cell? ⟨w.heap.size, 3, none⟩ = some (.int .i64 x.ix) := BX4.out.cell 3
          have x4_4 : w3.cell? ⟨w.heap.size, 4, none⟩ = some (.int .i64 x.v.k) := BX4.out.cell 4
          have x4_5 : w3.cell? ⟨w.heap.size, 5, none⟩ = some (.int .i64 x.v.n) := BX4.out.cell 5
          have x4_6 : w3.cell? ⟨w.heap.size, 6, none⟩ = some (.string x.v.s) := BX4.out.cell 6
          have x4_7 : w3.cell? ⟨w.heap.size, 7, none⟩ = some (.slice (some ⟨b0, off, none⟩) x.args.length x.c) := BX4.out.cell 7
          have la4 : g5 < w3.heap.size := BA4.out.lt
          have lb4 : g6 < w3.heap.size := BB4.out.lt
          have lx4 : w.heap.size < w3.heap.size := BX4.out.lt
          go_wp2_with fail
          refine (I2b.out _ HB4.out).mono ?_
          rintro e w4 ⟨rfl, hb⟩
          have HB5 := Lib.hid (HB4.out.trans (hb.mono HB4.out.size))
          have BA5 := Lib.hid (BA4.out.below hb)
          have BB5 := Lib.hid (BB4.out.below hb)
          have BX5 := Lib.hid (BX4.out.below hb)
          clear hb a4_0 a4_1 a4_2 a4_3 a4_4 a4_5 a4_6 a4_7 b4_0 b4_1 b4_2 b4_3 b4_4 b4_5 b4_6 b4_7 x4_0 x4_1 x4_2 x4_3 x4_4 x4_5 x4_6 x4_7 la4 lb4 lx4
          cases i2b
          case false =>
            have HF := Lib.hid (show (-1 : Int) = r by rw [← HR.out]; simp)
            clear HR
            go_wp2
            go_ret
            exact ⟨ret_int HF.out, HB5.out⟩
          case true =>
            have HF := Lib.hid (show (3 : Int) = r by rw [← HR.out]; simp)
            clear HR
            go_wp2
            go_ret
            exact ⟨ret_int HF.out, HB5.out⟩
      case true =>
        have HF := Lib.hid (show (3 : Int) = r by rw [← HR.out]; simp)
        clear HR
        go_wp2
        go_ret
        exact ⟨ret_int HF.out, HB3.out⟩
set_option maxRecDepth 100000 in
set_option maxHeartbeats 4000000 in
theorem ty2_14 (L : List Va) (V : Value) (x a b : Ex) (hargs : x.args = [a, b]) (hop : x.op = 14) (w : World) (h : ExAt w x) (Ha : TyAt L V a w) (Hb : TyAt L V b w) : Calls Try.prog 52 #[x.agg, V] w fun e w' => e = .returned (.int .i64 (biT 14 a b (tyM L a) (tyM L b))) ∧ Below w.heap.size w w' := by
  have I1a := Lib.hid (fun W (hW : Below w.heap.size w W) => is_any L V a 1 W (Ha.keep hW))
  have I1b := Lib.hid (fun W (hW : Below w.heap.size w W) => is_any L V b 1 W (Hb.keep hW))
  have I2a := Lib.hid (fun W (hW : Below w.heap.size w W) => is_any L V a 2 W (Ha.keep hW))
  have I2b := Lib.hid (fun W (hW : Below w.heap.size w W) => is_any L V b 2 W (Hb.keep hW))
  have hx0 : 0 < x.args.length := by rw [hargs]; exact Nat.zero_lt_succ _
  have hx1 : 1 < x.args.length := by rw [hargs]; exact Nat.lt_succ_self _
  have hx1i : (1 : Int) < (x.args.length : Int) := by omega
  have e1 : ((x.args.length : Int) == 2) = true := by rw [hargs]; rfl
  have e2 : ((x.args.length : Int) != 2) = false := by rw [hargs]; rfl
  obtain ⟨b0, off, hA, hbl, hc⟩ := h.at' hx0
  have HC := Lib.hid (fun W hW => hc W hW 0 a (by rw [hargs]; rfl))
  have HD := Lib.hid (fun W hW => hc W hW 1 b (by rw [hargs]; rfl))
  simp only [Nat.zero_mul, Nat.add_zero, Nat.one_mul, Nat.add_assoc, Nat.reduceAdd] at HC HD
  unfold TyAt at Ha Hb
  obtain ⟨s, hs⟩ : ∃ u, tyM L a = u := ⟨_, rfl⟩
  obtain ⟨t, ht⟩ : ∃ u, tyM L b = u := ⟨_, rfl⟩
  simp only [hs, ht] at I1a I1b I2a I2b ⊢
  obtain ⟨i1a, hi1a⟩ : ∃ u, isC s 1 = u := ⟨_, rfl⟩
  obtain ⟨i1b, hi1b⟩ : ∃ u, isC t 1 = u := ⟨_, rfl⟩
  obtain ⟨i2a, hi2a⟩ : ∃ u, isC s 2 = u := ⟨_, rfl⟩
  obtain ⟨i2b, hi2b⟩ : ∃ u, isC t 2 = u := ⟨_, rfl⟩
  obtain ⟨r, hr⟩ : ∃ r, biT 14 a b s t = r := ⟨_, rfl⟩
  rw [hr]
  have hr1 : biT 14 a b s t = r := hr
  unfold biT at hr1
  rw [if_neg (by decide), if_pos (by decide)] at hr1
  simp only [hi1a, hi1b, hi2a, hi2b] at hr1 I1a I1b I2a I2b
  have HR := Lib.hid (show (if ((i1a && i1b) || (i2a && i2b)) = true then 3 else -1) = r from hr1)
  unfold Ex.agg at *
  rw [hop, hA]
  have hbw : b0 < w.heap.size := hbl
  clear hr hr1 hc hbl hi1a hi1b hi2a hi2b hs ht h hargs hop hA Ha Hb
  obtain ⟨W0, hW0⟩ : ∃ W, W = w.alloc (.cells #[.int .i64 14, .string x.tb, .string x.nm, .int .i64 x.ix, .int .i64 x.v.k, .int .i64 x.v.n, .string x.v.s, .slice (some ⟨b0, off, none⟩) x.args.length x.c] 26) := ⟨_, rfl⟩
  have HB := Lib.hid (show Below w.heap.size w W0 by rw [hW0]; exact (Below.refl _ w).alloc (Nat.le_refl _) _)
  have K2 := Lib.hid (show Blk W0 w.heap.size 26 #[.int .i64 14, .string x.tb, .string x.nm, .int .i64 x.ix, .int .i64 x.v.k, .int .i64 x.v.n, .string x.v.s, .slice (some ⟨b0, off, none⟩) x.args.length x.c] by rw [hW0]; exact Blk.new _ _ _)
  have hl0 : w.heap.size < W0.heap.size := K2.out.lt
  have hb1 : b0 < W0.heap.size := by omega
  obtain ⟨c0, c1, c2, c3, c4, c5, c6, c7⟩ := HC.out _ HB.out
  obtain ⟨d0, d1, d2, d3, d4, d5, d6, d7⟩ := HD.out _ HB.out
  have k0 : W0.cell? ⟨w.heap.size, 0, none⟩ = some (.int .i64 14) := K2.out.cell 0
  have k7 : W0.cell? ⟨w.heap.size, 7, none⟩ = some (.slice (some ⟨b0, off, none⟩) x.args.length x.c) := K2.out.cell 7
  go_enter Try.func52, Try.ntmps52
  go_upto_region 1 with fail
  rw [← hW0]
  clear hW0
  go_upto_region 17 with fail
  go_cut [5, 6] from 7 (fun s5 s6 wx => ∃ g5 g6 : Nat, s5 = .pointer (some ⟨g5, 0, none⟩) ∧ s6 = .pointer (some ⟨g6, 0, none⟩) ∧ Blk wx g5 26 #[.int .i64 a.op, .string a.tb, .string a.nm, .int .i64 a.ix, .int .i64 a.v.k, .int .i64 a.v.n, .string a.v.s, .slice a.A a.args.length a.c] ∧ Blk wx g6 26 #[.int .i64 b.op, .string b.tb, .string b.nm, .int .i64 b.ix, .int .i64 b.v.k, .int .i64 b.v.n, .string b.v.s, .slice b.A b.args.length b.c] ∧ Below W0.heap.size W0 wx)
  case first =>
    go_region
    · go_wp2_with fail
      go_meet
      case rel => exact ⟨_, _, rfl, rfl, ((Blk.new _ _ _).alloc _).drew, (Blk.new_ (by simp) rfl : Blk ((W0.alloc _).alloc _) _ _ _).drew, below_drew (((Below.refl _ W0).alloc (Nat.le_refl _) _).alloc (by simp) _)⟩
    · go_wp2_with fail
      go_meet
      case rel => exact ⟨_, _, rfl, rfl, (Blk.new_ (by simp) rfl : Blk ((W0.alloc _).alloc _) _ _ _).drew, ((Blk.new _ _ _).alloc _).drew, below_drew (((Below.refl _ W0).alloc (Nat.le_refl _) _).alloc (by simp) _)⟩
  case rest =>
    obtain ⟨g5, g6, rfl, rfl, BA1, BB1, hW⟩ := hcut
    clear c0 c1 c2 c3 c4 c5 c6 c7 d0 d1 d2 d3 d4 d5 d6 d7 k0 k7
    have HB1 := Lib.hid (HB.out.trans (hW.mono HB.out.size))
    have BA1 := Lib.hid BA1
    have BB1 := Lib.hid BB1
    have BX1 := Lib.hid (K2.out.below hW)
    clear hW K2 HB HC HD
    have a1_0 : wc.cell? ⟨g5, 0, none⟩ = some (.int .i64 a.op) := BA1.out.cell 0
    have a1_1 : wc.cell? ⟨g5, 1, none⟩ = some (.string a.tb) := BA1.out.cell 1
    have a1_2 : wc.cell? ⟨g5, 2, none⟩ = some (.string a.nm) := BA1.out.cell 2
    have a1_3 : wc.cell? ⟨g5, 3, none⟩ = some (.int .i64 a.ix) := BA1.out.cell 3
    have a1_4 : wc.cell? ⟨g5, 4, none⟩ = some (.int .i64 a.v.k) := BA1.out.cell 4
    have a1_5 : wc.cell? ⟨g5, 5, none⟩ = some (.int .i64 a.v.n) := BA1.out.cell 5
    have a1_6 : wc.cell? ⟨g5, 6, none⟩ = some (.string a.v.s) := BA1.out.cell 6
    have a1_7 : wc.cell? ⟨g5, 7, none⟩ = some (.slice a.A a.args.length a.c) := BA1.out.cell 7
    have b1_0 : wc.cell? ⟨g6, 0, none⟩ = some (.int .i64 b.op) := BB1.out.cell 0
    have b1_1 : wc.cell? ⟨g6, 1, none⟩ = some (.string b.tb) := BB1.out.cell 1
    have b1_2 : wc.cell? ⟨g6, 2, none⟩ = some (.string b.nm) := BB1.out.cell 2
    have b1_3 : wc.cell? ⟨g6, 3, none⟩ = some (.int .i64 b.ix) := BB1.out.cell 3
    have b1_4 : wc.cell? ⟨g6, 4, none⟩ = some (.int .i64 b.v.k) := BB1.out.cell 4
    have b1_5 : wc.cell? ⟨g6, 5, none⟩ = some (.int .i64 b.v.n) := BB1.out.cell 5
    have b1_6 : wc.cell? ⟨g6, 6, none⟩ = some (.string b.v.s) := BB1.out.cell 6
    have b1_7 : wc.cell? ⟨g6, 7, none⟩ = some (.slice b.A b.args.length b.c) := BB1.out.cell 7
    have x1_0 : wc.cell? ⟨w.heap.size, 0, none⟩ = some (.int .i64 14) := BX1.out.cell 0
    have x1_1 : wc.cell? ⟨w.heap.size, 1, none⟩ = some (.string x.tb) := BX1.out.cell 1
    have x1_2 : wc.cell? ⟨w.heap.size, 2, none⟩ = some (.string x.nm) := BX1.out.cell 2
    have x1_3 : wc.cell? ⟨w.heap.size, 3, none⟩ = some (.int .i64 x.ix) := BX1.out.cell 3
    have x1_4 : wc.cell? ⟨w.heap.size, 4, none⟩ = some (.int .i64 x.v.k) := BX1.out.cell 4
    have x1_5 : wc.cell? ⟨w.heap.size, 5, none⟩ = some (.int .i64 x.v.n) := BX1.out.cell 5
    have x1_6 : wc.cell? ⟨w.heap.size, 6, none⟩ = some (.string x.v.s) := BX1.out.cell 6
    have x1_7 : wc.cell? ⟨w.heap.size, 7, none⟩ = some (.slice (some ⟨b0, off, none⟩) x.args.length x.c) := BX1.out.cell 7
    have la1 : g5 < wc.heap.size := BA1.out.lt
    have lb1 : g6 < wc.heap.size := BB1.out.lt
    have lx1 : w.heap.size < wc.heap.size := BX1.out.lt
    go_wp2_with fail
    refine (I1a.out _ HB1.out).mono ?_
    rintro e w1 ⟨rfl, hb⟩
    have HB2 := Lib.hid (HB1.out.trans (hb.mono HB1.out.size))
    have BA2 := Lib.hid (BA1.out.below hb)
    have BB2 := Lib.hid (BB1.out.below hb)
    have BX2 := Lib.hid (BX1.out.below hb)
    clear hb a1_0 a1_1 a1_2 a1_3 a1_4 a1_5 a1_6 a1_7 b1_0 b1_1 b1_2 b1_3 b1_4 b1_5 b1_6 b1_7 x1_0 x1_1 x1_2 x1_3 x1_4 x1_5 x1_6 x1_7 la1 lb1 lx1
    cases i1a
    case false =>
      have a2_0 : w1.cell? ⟨g5, 0, none⟩ = some (.int .i64 a.op) := BA2.out.cell 0
      have a2_1 : w1.cell? ⟨g5, 1, none⟩ = some (.string a.tb) := BA2.out.cell 1
      have a2_2 : w1.cell? ⟨g5, 2, none⟩ = some (.string a.nm) := BA2.out.cell 2
      have a2_3 : w1.cell? ⟨g5, 3, none⟩ = some (.int .i64 a.ix) := BA2.out.cell 3
      have a2_4 : w1.cell? ⟨g5, 4, none⟩ = some (.int .i64 a.v.k) := BA2.out.cell 4
      have a2_5 : w1.cell? ⟨g5, 5, none⟩ = some (.int .i64 a.v.n) := BA2.out.cell 5
      have a2_6 : w1.cell? ⟨g5, 6, none⟩ = some (.string a.v.s) := BA2.out.cell 6
      have a2_7 : w1.cell? ⟨g5, 7, none⟩ = some (.slice a.A a.args.length a.c) := BA2.out.cell 7
      have b2_0 : w1.cell? ⟨g6, 0, none⟩ = some (.int .i64 b.op) := BB2.out.cell 0
      have b2_1 : w1.cell? ⟨g6, 1, none⟩ = some (.string b.tb) := BB2.out.cell 1
      have b2_2 : w1.cell? ⟨g6, 2, none⟩ = some (.string b.nm) := BB2.out.cell 2
      have b2_3 : w1.cell? ⟨g6, 3, none⟩ = some (.int .i64 b.ix) := BB2.out.cell 3
      have b2_4 : w1.cell? ⟨g6, 4, none⟩ = some (.int .i64 b.v.k) := BB2.out.cell 4
      have b2_5 : w1.cell? ⟨g6, 5, none⟩ = some (.int .i64 b.v.n) := BB2.out.cell 5
      have b2_6 : w1.cell? ⟨g6, 6, none⟩ = some (.string b.v.s) := BB2.out.cell 6
      have b2_7 : w1.cell? ⟨g6, 7, none⟩ = some (.slice b.A b.args.length b.c) := BB2.out.cell 7
      have x2_0 : w1.cell? ⟨w.heap.size, 0, none⟩ = some (.int .i64 14) := BX2.out.cell 0
      have x2_1 : w1.cell? ⟨w.heap.size, 1, none⟩ = some (.string x.tb) := BX2.out.cell 1
      have x2_2 : w1.cell? ⟨w.heap.size, 2, none⟩ = some (.string x.nm) := BX2.out.cell 2
      have x2_3 : w1.cell? ⟨w.heap.size, 3, none⟩ = some (.int .i64 x.ix) := BX2.out.cell 3
      have x2_4 : w1.cell? ⟨w.heap.size, 4, none⟩ = some (.int .i64 x.v.k) := BX2.out.cell 4
      have x2_5 : w1.cell? ⟨w.heap.size, 5, none⟩ = some (.int .i64 x.v.n) := BX2.out.cell 5
      have x2_6 : w1.cell? ⟨w.heap.size, 6, none⟩ = some (.string x.v.s) := BX2.out.cell 6
      have x2_7 : w1.cell? ⟨w.heap.size, 7, none⟩ = some (.slice (some ⟨b0, off, none⟩) x.args.length x.c) := BX2.out.cell 7
      have la2 : g5 < w1.heap.size := BA2.out.lt
      have lb2 : g6 < w1.heap.size := BB2.out.lt
      have lx2 : w.heap.size < w1.heap.size := BX2.out.lt
      go_wp2_with fail
      refine (I2a.out _ HB2.out).mono ?_
      rintro e w2 ⟨rfl, hb⟩
      have HB3 := Lib.hid (HB2.out.trans (hb.mono HB2.out.size))
      have BA3 := Lib.hid (BA2.out.below hb)
      have BB3 := Lib.hid (BB2.out.below hb)
      have BX3 := Lib.hid (BX2.out.below hb)
      clear hb a2_0 a2_1 a2_2 a2_3 a2_4 a2_5 a2_6 a2_7 b2_0 b2_1 b2_2 b2_3 b2_4 b2_5 b2_6 b2_7 x2_0 x2_1 x2_2 x2_3 x2_4 x2_5 x2_6 x2_7 la2 lb2 lx2
      cases i2a
      case false =>
        have HF := Lib.hid (show (-1 : Int) = r by rw [← HR.out]; simp)
        clear HR
        go_wp2
        go_ret
        exact ⟨ret_int HF.out, HB3.out⟩
      case true =>
        have a3_0 : w2.cell? ⟨g5, 0, none⟩ = some (.int .i64 a.op) := BA3.out.cell 0
        have a3_1 : w2.cell? ⟨g5, 1, none⟩ = some (.string a.tb) := BA3.out.cell 1
        have a3_2 : w2.cell? ⟨g5, 2, none⟩ = some (.string a.nm) := BA3.out.cell 2
        have a3_3 : w2.cell? ⟨g5, 3, none⟩ = some (.int .i64 a.ix) := BA3.out.cell 3
        have a3_4 : w2.cell? ⟨g5, 4, none⟩ = some (.int .i64 a.v.k) := BA3.out.cell 4
        have a3_5 : w2.cell? ⟨g5, 5, none⟩ = some (.int .i64 a.v.n) := BA3.out.cell 5
        have a3_6 : w2.cell? ⟨g5, 6, none⟩ = some (.string a.v.s) := BA3.out.cell 6
        have a3_7 : w2.cell? ⟨g5, 7, none⟩ = some (.slice a.A a.args.length a.c) := BA3.out.cell 7
        have b3_0 : w2.cell? ⟨g6, 0, none⟩ = some (.int .i64 b.op) := BB3.out.cell 0
        have b3_1 : w2.cell? ⟨g6, 1, none⟩ = some (.string b.tb) := BB3.out.cell 1
        have b3_2 : w2.cell? ⟨g6, 2, none⟩ = some (.string b.nm) := BB3.out.cell 2
        have b3_3 : w2.cell? ⟨g6, 3, none⟩ = some (.int .i64 b.ix) := BB3.out.cell 3
        have b3_4 : w2.cell? ⟨g6, 4, none⟩ = some (.int .i64 b.v.k) := BB3.out.cell 4
        have b3_5 : w2.cell? ⟨g6, 5, none⟩ = some (.int .i64 b.v.n) := BB3.out.cell 5
        have b3_6 : w2.cell? ⟨g6, 6, none⟩ = some (.string b.v.s) := BB3.out.cell 6
        have b3_7 : w2.cell? ⟨g6, 7, none⟩ = some (.slice b.A b.args.length b.c) := BB3.out.cell 7
        have x3_0 : w2.cell? ⟨w.heap.size, 0, none⟩ = some (.int .i64 14) := BX3.out.cell 0
        have x3_1 : w2.cell? ⟨w.heap.size, 1, none⟩ = some (.string x.tb) := BX3.out.cell 1
        have x3_2 : w2.cell? ⟨w.heap.size, 2, none⟩ = some (.string x.nm) := BX3.out.cell 2
        have x3_3 : w2.cell? ⟨w.heap.size, 3, none⟩ = some (.int .i64 x.ix) := BX3.out.cell 3
        have x3_4 : w2.cell? ⟨w.heap.size, 4, none⟩ = some (.int .i64 x.v.k) := BX3.out.cell 4
        have x3_5 : w2.cell? ⟨w.heap.size, 5, none⟩ = some (.int .i64 x.v.n) := BX3.out.cell 5
        have x3_6 : w2.cell? ⟨w.heap.size, 6, none⟩ = some (.string x.v.s) := BX3.out.cell 6
        have x3_7 : w2.cell? ⟨w.heap.size, 7, none⟩ = some (.slice (some ⟨b0, off, none⟩) x.args.length x.c) := BX3.out.cell 7
        have la3 : g5 < w2.heap.size := BA3.out.lt
        have lb3 : g6 < w2.heap.size := BB3.out.lt
        have lx3 : w.heap.size < w2.heap.size := BX3.out.lt
        go_wp2_with fail
        refine (I2b.out _ HB3.out).mono ?_
        rintro e w3 ⟨rfl, hb⟩
        have HB4 := Lib.hid (HB3.out.trans (hb.mono HB3.out.size))
        have BA4 := Lib.hid (BA3.out.below hb)
        have BB4 := Lib.hid (BB3.out.below hb)
        have BX4 := Lib.hid (BX3.out.below hb)
        clear hb a3_0 a3_1 a3_2 a3_3 a3_4 a3_5 a3_6 a3_7 b3_0 b3_1 b3_2 b3_3 b3_4 b3_5 b3_6 b3_7 x3_0 x3_1 x3_2 x3_3 x3_4 x3_5 x3_6 x3_7 la3 lb3 lx3
        cases i2b
        case false =>
          have HF := Lib.hid (show (-1 : Int) = r by rw [← HR.out]; simp)
          clear HR
          go_wp2
          go_ret
          exact ⟨ret_int HF.out, HB4.out⟩
        case true =>
          have HF := Lib.hid (show (3 : Int) = r by rw [← HR.out]; simp)
          clear HR
          go_wp2
          go_ret
          exact ⟨ret_int HF.out, HB4.out⟩
    case true =>
      have a2_0 : w1.cell? ⟨g5, 0, none⟩ = some (.int .i64 a.op) := BA2.out.cell 0
      have a2_1 : w1.cell? ⟨g5, 1, none⟩ = some (.string a.tb) := BA2.out.cell 1
      have a2_2 : w1.cell? ⟨g5, 2, none⟩ = some (.string a.nm) := BA2.out.cell 2
      have a2_3 : w1.cell? ⟨g5, 3, none⟩ = some (.int .i64 a.ix) := BA2.out.cell 3
      have a2_4 : w1.cell? ⟨g5, 4, none⟩ = some (.int .i64 a.v.k) := BA2.out.cell 4
      have a2_5 : w1.cell? ⟨g5, 5, none⟩ = some (.int .i64 a.v.n) := BA2.out.cell 5
      have a2_6 : w1.cell? ⟨g5, 6, none⟩ = some (.string a.v.s) := BA2.out.cell 6
      have a2_7 : w1.cell? ⟨g5, 7, none⟩ = some (.slice a.A a.args.length a.c) := BA2.out.cell 7
      have b2_0 : w1.cell? ⟨g6, 0, none⟩ = some (.int .i64 b.op) := BB2.out.cell 0
      have b2_1 : w1.cell? ⟨g6, 1, none⟩ = some (.string b.tb) := BB2.out.cell 1
      have b2_2 : w1.cell? ⟨g6, 2, none⟩ = some (.string b.nm) := BB2.out.cell 2
      have b2_3 : w1.cell? ⟨g6, 3, none⟩ = some (.int .i64 b.ix) := BB2.out.cell 3
      have b2_4 : w1.cell? ⟨g6, 4, none⟩ = some (.int .i64 b.v.k) := BB2.out.cell 4
      have b2_5 : w1.cell? ⟨g6, 5, none⟩ = some (.int .i64 b.v.n) := BB2.out.cell 5
      have b2_6 : w1.cell? ⟨g6, 6, none⟩ = some (.string b.v.s) := BB2.out.cell 6
      have b2_7 : w1.cell? ⟨g6, 7, none⟩ = some (.slice b.A b.args.length b.c) := BB2.out.cell 7
      have x2_0 : w1.cell? ⟨w.heap.size, 0, none⟩ = some (.int .i64 14) := BX2.out.cell 0
      have x2_1 : w1.cell? ⟨w.heap.size, 1, none⟩ = some (.string x.tb) := BX2.out.cell 1
      have x2_2 : w1.cell? ⟨w.heap.size, 2, none⟩ = some (.string x.nm) := BX2.out.cell 2
      have x2_3 : w1.cell? ⟨w.heap.size, 3, none⟩ = some (.int .i64 x.ix) := BX2.out.cell 3
      have x2_4 : w1.cell? ⟨w.heap.size, 4, none⟩ = some (.int .i64 x.v.k) := BX2.out.cell 4
      have x2_5 : w1.cell? ⟨w.heap.size, 5, none⟩ = some (.int .i64 x.v.n) := BX2.out.cell 5
      have x2_6 : w1.cell? ⟨w.heap.size, 6, none⟩ = some (.string x.v.s) := BX2.out.cell 6
      have x2_7 : w1.cell? ⟨w.heap.size, 7, none⟩ = some (.slice (some ⟨b0, off, none⟩) x.args.length x.c) := BX2.out.cell 7
      have la2 : g5 < w1.heap.size := BA2.out.lt
      have lb2 : g6 < w1.heap.size := BB2.out.lt
      have lx2 : w.heap.size < w1.heap.size := BX2.out.lt
      go_wp2_with fail
      refine (I1b.out _ HB2.out).mono ?_
      rintro e w2 ⟨rfl, hb⟩
      have HB3 := Lib.hid (HB2.out.trans (hb.mono HB2.out.size))
      have BA3 := Lib.hid (BA2.out.below hb)
      have BB3 := Lib.hid (BB2.out.below hb)
      have BX3 := Lib.hid (BX2.out.below hb)
      clear hb a2_0 a2_1 a2_2 a2_3 a2_4 a2_5 a2_6 a2_7 b2_0 b2_1 b2_2 b2_3 b2_4 b2_5 b2_6 b2_7 x2_0 x2_1 x2_2 x2_3 x2_4 x2_5 x2_6 x2_7 la2 lb2 lx2
      cases i1b
      case false =>
        have a3_0 : w2.cell? ⟨g5, 0, none⟩ = some (.int .i64 a.op) := BA3.out.cell 0
        have a3_1 : w2.cell? ⟨g5, 1, none⟩ = some (.string a.tb) := BA3.out.cell 1
        have a3_2 : w2.cell? ⟨g5, 2, none⟩ = some (.string a.nm) := BA3.out.cell 2
        have a3_3 : w2.cell? ⟨g5, 3, none⟩ = some (.int .i64 a.ix) := BA3.out.cell 3
        have a3_4 : w2.cell? ⟨g5, 4, none⟩ = some (.int .i64 a.v.k) := BA3.out.cell 4
        have a3_5 : w2.cell? ⟨g5, 5, none⟩ = some (.int .i64 a.v.n) := BA3.out.cell 5
        have a3_6 : w2.cell? ⟨g5, 6, none⟩ = some (.string a.v.s) := BA3.out.cell 6
        have a3_7 : w2.cell? ⟨g5, 7, none⟩ = some (.slice a.A a.args.length a.c) := BA3.out.cell 7
        have b3_0 : w2.cell? ⟨g6, 0, none⟩ = some (.int .i64 b.op) := BB3.out.cell 0
        have b3_1 : w2.cell? ⟨g6, 1, none⟩ = some (.string b.tb) := BB3.out.cell 1
        have b3_2 : w2.cell? ⟨g6, 2, none⟩ = some (.string b.nm) := BB3.out.cell 2
        have b3_3 : w2.cell? ⟨g6, 3, none⟩ = some (.int .i64 b.ix) := BB3.out.cell 3
        have b3_4 : w2.cell? ⟨g6, 4, none⟩ = some (.int .i64 b.v.k) := BB3.out.cell 4
        have b3_5 : w2.cell? ⟨g6, 5, none⟩ = some (.int .i64 b.v.n) := BB3.out.cell 5
        have b3_6 : w2.cell? ⟨g6, 6, none⟩ = some (.string b.v.s) := BB3.out.cell 6
        have b3_7 : w2.cell? ⟨g6, 7, none⟩ = some (.slice b.A b.args.length b.c) := BB3.out.cell 7
        have x3_0 : w2.cell? ⟨w.heap.size, 0, none⟩ = some (.int .i64 14) := BX3.out.cell 0
        have x3_1 : w2.cell? ⟨w.heap.size, 1, none⟩ = some (.string x.tb) := BX3.out.cell 1
        have x3_2 : w2.cell? ⟨w.heap.size, 2, none⟩ = some (.string x.nm) := BX3.out.cell 2
        have x3_3 : w2.cell? ⟨w.heap.size, 3, none⟩ = some (.int .i64 x.ix) := BX3.out.cell 3
        have x3_4 : w2.cell? ⟨w.heap.size, 4, none⟩ = some (.int .i64 x.v.k) := BX3.out.cell 4
        have x3_5 : w2.cell? ⟨w.heap.size, 5, none⟩ = some (.int .i64 x.v.n) := BX3.out.cell 5
        have x3_6 : w2.cell? ⟨w.heap.size, 6, none⟩ = some (.string x.v.s) := BX3.out.cell 6
        have x3_7 : w2.cell? ⟨w.heap.size, 7, none⟩ = some (.slice (some ⟨b0, off, none⟩) x.args.length x.c) := BX3.out.cell 7
        have la3 : g5 < w2.heap.size := BA3.out.lt
        have lb3 : g6 < w2.heap.size := BB3.out.lt
        have lx3 : w.heap.size < w2.heap.size := BX3.out.lt
        go_wp2_with fail
        refine (I2a.out _ HB3.out).mono ?_
        rintro e w3 ⟨rfl, hb⟩
        have HB4 := Lib.hid (HB3.out.trans (hb.mono HB3.out.size))
        have BA4 := Lib.hid (BA3.out.below hb)
        have BB4 := Lib.hid (BB3.out.below hb)
        have BX4 := Lib.hid (BX3.out.below hb)
        clear hb a3_0 a3_1 a3_2 a3_3 a3_4 a3_5 a3_6 a3_7 b3_0 b3_1 b3_2 b3_3 b3_4 b3_5 b3_6 b3_7 x3_0 x3_1 x3_2 x3_3 x3_4 x3_5 x3_6 x3_7 la3 lb3 lx3
        cases i2a
        case false =>
          have HF := Lib.hid (show (-1 : Int) = r by rw [← HR.out]; simp)
          clear HR
          go_wp2
          go_ret
          exact ⟨ret_int HF.out, HB4.out⟩
        case true =>
          have a4_0 : w3.cell? ⟨g5, 0, none⟩ = some (.int .i64 a.op) := BA4.out.cell 0
          have a4_1 : w3.cell? ⟨g5, 1, none⟩ = some (.string a.tb) := BA4.out.cell 1
          have a4_2 : w3.cell? ⟨g5, 2, none⟩ = some (.string a.nm) := BA4.out.cell 2
          have a4_3 : w3.cell? ⟨g5, 3, none⟩ = some (.int .i64 a.ix) := BA4.out.cell 3
          have a4_4 : w3.cell? ⟨g5, 4, none⟩ = some (.int .i64 a.v.k) := BA4.out.cell 4
          have a4_5 : w3.cell? ⟨g5, 5, none⟩ = some (.int .i64 a.v.n) := BA4.out.cell 5
          have a4_6 : w3.cell? ⟨g5, 6, none⟩ = some (.string a.v.s) := BA4.out.cell 6
          have a4_7 : w3.cell? ⟨g5, 7, none⟩ = some (.slice a.A a.args.length a.c) := BA4.out.cell 7
          have b4_0 : w3.cell? ⟨g6, 0, none⟩ = some (.int .i64 b.op) := BB4.out.cell 0
          have b4_1 : w3.cell? ⟨g6, 1, none⟩ = some (.string b.tb) := BB4.out.cell 1
          have b4_2 : w3.cell? ⟨g6, 2, none⟩ = some (.string b.nm) := BB4.out.cell 2
          have b4_3 : w3.cell? ⟨g6, 3, none⟩ = some (.int .i64 b.ix) := BB4.out.cell 3
          have b4_4 : w3.cell? ⟨g6, 4, none⟩ = some (.int .i64 b.v.k) := BB4.out.cell 4
          have b4_5 : w3.cell? ⟨g6, 5, none⟩ = some (.int .i64 b.v.n) := BB4.out.cell 5
          have b4_6 : w3.cell? ⟨g6, 6, none⟩ = some (.string b.v.s) := BB4.out.cell 6
          have b4_7 : w3.cell? ⟨g6, 7, none⟩ = some (.slice b.A b.args.length b.c) := BB4.out.cell 7
          have x4_0 : w3.cell? ⟨w.heap.size, 0, none⟩ = some (.int .i64 14) := BX4.out.cell 0
          have x4_1 : w3.cell? ⟨w.heap.size, 1, none⟩ = some (.string x.tb) := BX4.out.cell 1
          have x4_2 : w3.cell? ⟨w.heap.size, 2, none⟩ = some (.string x.nm) := BX4.out.cell 2
          have x4_3 : w3.cell? ⟨w.heap.size, 3, none⟩ = some (.int .i64 x.ix) := BX4.out.cell 3
          have x4_4 : w3.cell? ⟨w.heap.size, 4, none⟩ = some (.int .i64 x.v.k) := BX4.out.cell 4
          have x4_5 : w3.cell? ⟨w.heap.size, 5, none⟩ = some (.int .i64 x.v.n) := BX4.out.cell 5
          have x4_6 : w3.cell? ⟨w.heap.size, 6, none⟩ = some (.string x.v.s) := BX4.out.cell 6
          have x4_7 : w3.cell? ⟨w.heap.size, 7, none⟩ = some (.slice (some ⟨b0, off, none⟩) x.args.length x.c) := BX4.out.cell 7
          have la4 : g5 < w3.heap.size := BA4.out.lt
          have lb4 : g6 < w3.heap.size := BB4.out.lt
          have lx4 : w.heap.size < w3.heap.size := BX4.out.lt
          go_wp2_with fail
          refine (I2b.out _ HB4.out).mono ?_
          rintro e w4 ⟨rfl, hb⟩
          have HB5 := Lib.hid (HB4.out.trans (hb.mono HB4.out.size))
          have BA5 := Lib.hid (BA4.out.below hb)
          have BB5 := Lib.hid (BB4.out.below hb)
          have BX5 := Lib.hid (BX4.out.below hb)
          clear hb a4_0 a4_1 a4_2 a4_3 a4_4 a4_5 a4_6 a4_7 b4_0 b4_1 b4_2 b4_3 b4_4 b4_5 b4_6 b4_7 x4_0 x4_1 x4_2 x4_3 x4_4 x4_5 x4_6 x4_7 la4 lb4 lx4
          cases i2b
          case false =>
            have HF := Lib.hid (show (-1 : Int) = r by rw [← HR.out]; simp)
            clear HR
            go_wp2
            go_ret
            exact ⟨ret_int HF.out, HB5.out⟩
          case true =>
            have HF := Lib.hid (show (3 : Int) = r by rw [← HR.out]; simp)
            clear HR
            go_wp2
            go_ret
            exact ⟨ret_int HF.out, HB5.out⟩
      case true =>
        have HF := Lib.hid (show (3 : Int) = r by rw [← HR.out]; simp)
        clear HR
        go_wp2
        go_ret
        exact ⟨ret_int HF.out, HB3.out⟩
set_option maxRecDepth 100000 in
set_option maxHeartbeats 4000000 in
theorem ty2_15 (L : List Va) (V : Value) (x a b : Ex) (hargs : x.args = [a, b]) (hop : x.op = 15) (w : World) (h : ExAt w x) (Ha : TyAt L V a w) (Hb : TyAt L V b w) : Calls Try.prog 52 #[x.agg, V] w fun e w' => e = .returned (.int .i64 (biT 15 a b (tyM L a) (tyM L b))) ∧ Below w.heap.size w w' := by
  have I1a := Lib.hid (fun W (hW : Below w.heap.size w W) => is_any L V a 1 W (Ha.keep hW))
  have I1b := Lib.hid (fun W (hW : Below w.heap.size w W) => is_any L V b 1 W (Hb.keep hW))
  have I2a := Lib.hid (fun W (hW : Below w.heap.size w W) => is_any L V a 2 W (Ha.keep hW))
  have I2b := Lib.hid (fun W (hW : Below w.heap.size w W) => is_any L V b 2 W (Hb.keep hW))
  have hx0 : 0 < x.args.length := by rw [hargs]; exact Nat.zero_lt_succ _
  have hx1 : 1 < x.args.length := by rw [hargs]; exact Nat.lt_succ_self _
  have hx1i : (1 : Int) < (x.args.length : Int) := by omega
  have e1 : ((x.args.length : Int) == 2) = true := by rw [hargs]; rfl
  have e2 : ((x.args.length : Int) != 2) = false := by rw [hargs]; rfl
  obtain ⟨b0, off, hA, hbl, hc⟩ := h.at' hx0
  have HC := Lib.hid (fun W hW => hc W hW 0 a (by rw [hargs]; rfl))
  have HD := Lib.hid (fun W hW => hc W hW 1 b (by rw [hargs]; rfl))
  simp only [Nat.zero_mul, Nat.add_zero, Nat.one_mul, Nat.add_assoc, Nat.reduceAdd] at HC HD
  unfold TyAt at Ha Hb
  obtain ⟨s, hs⟩ : ∃ u, tyM L a = u := ⟨_, rfl⟩
  obtain ⟨t, ht⟩ : ∃ u, tyM L b = u := ⟨_, rfl⟩
  simp only [hs, ht] at I1a I1b I2a I2b ⊢
  obtain ⟨i1a, hi1a⟩ : ∃ u, isC s 1 = u := ⟨_, rfl⟩
  obtain ⟨i1b, hi1b⟩ : ∃ u, isC t 1 = u := ⟨_, rfl⟩
  obtain ⟨i2a, hi2a⟩ : ∃ u, isC s 2 = u := ⟨_, rfl⟩
  obtain ⟨i2b, hi2b⟩ : ∃ u, isC t 2 = u := ⟨_, rfl⟩
  obtain ⟨r, hr⟩ : ∃ r, biT 15 a b s t = r := ⟨_, rfl⟩
  rw [hr]
  have hr1 : biT 15 a b s t = r := hr
  unfold biT at hr1
  rw [if_neg (by decide), if_pos (by decide)] at hr1
  simp only [hi1a, hi1b, hi2a, hi2b] at hr1 I1a I1b I2a I2b
  have HR := Lib.hid (show (if ((i1a && i1b) || (i2a && i2b)) = true then 3 else -1) = r from hr1)
  unfold Ex.agg at *
  rw [hop, hA]
  have hbw : b0 < w.heap.size := hbl
  clear hr hr1 hc hbl hi1a hi1b hi2a hi2b hs ht h hargs hop hA Ha Hb
  obtain ⟨W0, hW0⟩ : ∃ W, W = w.alloc (.cells #[.int .i64 15, .string x.tb, .string x.nm, .int .i64 x.ix, .int .i64 x.v.k, .int .i64 x.v.n, .string x.v.s, .slice (some ⟨b0, off, none⟩) x.args.length x.c] 26) := ⟨_, rfl⟩
  have HB := Lib.hid (show Below w.heap.size w W0 by rw [hW0]; exact (Below.refl _ w).alloc (Nat.le_refl _) _)
  have K2 := Lib.hid (show Blk W0 w.heap.size 26 #[.int .i64 15, .string x.tb, .string x.nm, .int .i64 x.ix, .int .i64 x.v.k, .int .i64 x.v.n, .string x.v.s, .slice (some ⟨b0, off, none⟩) x.args.length x.c] by rw [hW0]; exact Blk.new _ _ _)
  have hl0 : w.heap.size < W0.heap.size := K2.out.lt
  have hb1 : b0 < W0.heap.size := by omega
  obtain ⟨c0, c1, c2, c3, c4, c5, c6, c7⟩ := HC.out _ HB.out
  obtain ⟨d0, d1, d2, d3, d4, d5, d6, d7⟩ := HD.out _ HB.out
  have k0 : W0.cell? ⟨w.heap.size, 0, none⟩ = some (.int .i64 15) := K2.out.cell 0
  have k7 : W0.cell? ⟨w.heap.size, 7, none⟩ = some (.slice (some ⟨b0, off, none⟩) x.args.length x.c) := K2.out.cell 7
  go_enter Try.func52, Try.ntmps52
  go_upto_region 1 with fail
  rw [← hW0]
  clear hW0
  go_upto_region 17 with fail
  go_cut [5, 6] from 7 (fun s5 s6 wx => ∃ g5 g6 : Nat, s5 = .pointer (some ⟨g5, 0, none⟩) ∧ s6 = .pointer (some ⟨g6, 0, none⟩) ∧ Blk wx g5 26 #[.int .i64 a.op, .string a.tb, .string a.nm, .int .i64 a.ix, .int .i64 a.v.k, .int .i64 a.v.n, .string a.v.s, .slice a.A a.args.length a.c] ∧ Blk wx g6 26 #[.int .i64 b.op, .string b.tb, .string b.nm, .int .i64 b.ix, .int .i64 b.v.k, .int .i64 b.v.n, .string b.v.s, .slice b.A b.args.length b.c] ∧ Below W0.heap.size W0 wx)
  case first =>
    go_region
    · go_wp2_with fail
      go_meet
      case rel => exact ⟨_, _, rfl, rfl, ((Blk.new _ _ _).alloc _).drew, (Blk.new_ (by simp) rfl : Blk ((W0.alloc _).alloc _) _ _ _).drew, below_drew (((Below.refl _ W0).alloc (Nat.le_refl _) _).alloc (by simp) _)⟩
    · go_wp2_with fail
      go_meet
      case rel => exact ⟨_, _, rfl, rfl, (Blk.new_ (by simp) rfl : Blk ((W0.alloc _).alloc _) _ _ _).drew, ((Blk.new _ _ _).alloc _).drew, below_drew (((Below.refl _ W0).alloc (Nat.le_refl _) _).alloc (by simp) _)⟩
  case rest =>
    obtain ⟨g5, g6, rfl, rfl, BA1, BB1, hW⟩ := hcut
    clear c0 c1 c2 c3 c4 c5 c6 c7 d0 d1 d2 d3 d4 d5 d6 d7 k0 k7
    have HB1 := Lib.hid (HB.out.trans (hW.mono HB.out.size))
    have BA1 := Lib.hid BA1
    have BB1 := Lib.hid BB1
    have BX1 := Lib.hid (K2.out.below hW)
    clear hW K2 HB HC HD
    have a1_0 : wc.cell? ⟨g5, 0, none⟩ = some (.int .i64 a.op) := BA1.out.cell 0
    have a1_1 : wc.cell? ⟨g5, 1, none⟩ = some (.string a.tb) := BA1.out.cell 1
    have a1_2 : wc.cell? ⟨g5, 2, none⟩ = some (.string a.nm) := BA1.out.cell 2
    have a1_3 : wc.cell? ⟨g5, 3, none⟩ = some (.int .i64 a.ix) := BA1.out.cell 3
    have a1_4 : wc.cell? ⟨g5, 4, none⟩ = some (.int .i64 a.v.k) := BA1.out.cell 4
    have a1_5 : wc.cell? ⟨g5, 5, none⟩ = some (.int .i64 a.v.n) := BA1.out.cell 5
    have a1_6 : wc.cell? ⟨g5, 6, none⟩ = some (.string a.v.s) := BA1.out.cell 6
    have a1_7 : wc.cell? ⟨g5, 7, none⟩ = some (.slice a.A a.args.length a.c) := BA1.out.cell 7
    have b1_0 : wc.cell? ⟨g6, 0, none⟩ = some (.int .i64 b.op) := BB1.out.cell 0
    have b1_1 : wc.cell? ⟨g6, 1, none⟩ = some (.string b.tb) := BB1.out.cell 1
    have b1_2 : wc.cell? ⟨g6, 2, none⟩ = some (.string b.nm) := BB1.out.cell 2
    have b1_3 : wc.cell? ⟨g6, 3, none⟩ = some (.int .i64 b.ix) := BB1.out.cell 3
    have b1_4 : wc.cell? ⟨g6, 4, none⟩ = some (.int .i64 b.v.k) := BB1.out.cell 4
    have b1_5 : wc.cell? ⟨g6, 5, none⟩ = some (.int .i64 b.v.n) := BB1.out.cell 5
    have b1_6 : wc.cell? ⟨g6, 6, none⟩ = some (.string b.v.s) := BB1.out.cell 6
    have b1_7 : wc.cell? ⟨g6, 7, none⟩ = some (.slice b.A b.args.length b.c) := BB1.out.cell 7
    have x1_0 : wc.cell? ⟨w.heap.size, 0, none⟩ = some (.int .i64 15) := BX1.out.cell 0
    have x1_1 : wc.cell? ⟨w.heap.size, 1, none⟩ = some (.string x.tb) := BX1.out.cell 1
    have x1_2 : wc.cell? ⟨w.heap.size, 2, none⟩ = some (.string x.nm) := BX1.out.cell 2
    have x1_3 : wc.cell? ⟨w.heap.size, 3, none⟩ = some (.int .i64 x.ix) := BX1.out.cell 3
    have x1_4 : wc.cell? ⟨w.heap.size, 4, none⟩ = some (.int .i64 x.v.k) := BX1.out.cell 4
    have x1_5 : wc.cell? ⟨w.heap.size, 5, none⟩ = some (.int .i64 x.v.n) := BX1.out.cell 5
    have x1_6 : wc.cell? ⟨w.heap.size, 6, none⟩ = some (.string x.v.s) := BX1.out.cell 6
    have x1_7 : wc.cell? ⟨w.heap.size, 7, none⟩ = some (.slice (some ⟨b0, off, none⟩) x.args.length x.c) := BX1.out.cell 7
    have la1 : g5 < wc.heap.size := BA1.out.lt
    have lb1 : g6 < wc.heap.size := BB1.out.lt
    have lx1 : w.heap.size < wc.heap.size := BX1.out.lt
    go_wp2_with fail
    refine (I1a.out _ HB1.out).mono ?_
    rintro e w1 ⟨rfl, hb⟩
    have HB2 := Lib.hid (HB1.out.trans (hb.mono HB1.out.size))
    have BA2 := Lib.hid (BA1.out.below hb)
    have BB2 := Lib.hid (BB1.out.below hb)
    have BX2 := Lib.hid (BX1.out.below hb)
    clear hb a1_0 a1_1 a1_2 a1_3 a1_4 a1_5 a1_6 a1_7 b1_0 b1_1 b1_2 b1_3 b1_4 b1_5 b1_6 b1_7 x1_0 x1_1 x1_2 x1_3 x1_4 x1_5 x1_6 x1_7 la1 lb1 lx1
    cases i1a
    case false =>
      have a2_0 : w1.cell? ⟨g5, 0, none⟩ = some (.int .i64 a.op) := BA2.out.cell 0
      have a2_1 : w1.cell? ⟨g5, 1, none⟩ = some (.string a.tb) := BA2.out.cell 1
      have a2_2 : w1.cell? ⟨g5, 2, none⟩ = some (.string a.nm) := BA2.out.cell 2
      have a2_3 : w1.cell? ⟨g5, 3, none⟩ = some (.int .i64 a.ix) := BA2.out.cell 3
      have a2_4 : w1.cell? ⟨g5, 4, none⟩ = some (.int .i64 a.v.k) := BA2.out.cell 4
      have a2_5 : w1.cell? ⟨g5, 5, none⟩ = some (.int .i64 a.v.n) := BA2.out.cell 5
      have a2_6 : w1.cell? ⟨g5, 6, none⟩ = some (.string a.v.s) := BA2.out.cell 6
      have a2_7 : w1.cell? ⟨g5, 7, none⟩ = some (.slice a.A a.args.length a.c) := BA2.out.cell 7
      have b2_0 : w1.cell? ⟨g6, 0, none⟩ = some (.int .i64 b.op) := BB2.out.cell 0
      have b2_1 : w1.cell? ⟨g6, 1, none⟩ = some (.string b.tb) := BB2.out.cell 1
      have b2_2 : w1.cell? ⟨g6, 2, none⟩ = some (.string b.nm) := BB2.out.cell 2
      have b2_3 : w1.cell? ⟨g6, 3, none⟩ = some (.int .i64 b.ix) := BB2.out.cell 3
      have b2_4 : w1.cell? ⟨g6, 4, none⟩ = some (.int .i64 b.v.k) := BB2.out.cell 4
      have b2_5 : w1.cell? ⟨g6, 5, none⟩ = some (.int .i64 b.v.n) := BB2.out.cell 5
      have b2_6 : w1.cell? ⟨g6, 6, none⟩ = some (.string b.v.s) := BB2.out.cell 6
      have b2_7 : w1.cell? ⟨g6, 7, none⟩ = some (.slice b.A b.args.length b.c) := BB2.out.cell 7
      have x2_0 : w1.cell? ⟨w.heap.size, 0, none⟩ = some (.int .i64 15) := BX2.out.cell 0
      have x2_1 : w1.cell? ⟨w.heap.size, 1, none⟩ = some (.string x.tb) := BX2.out.cell 1
      have x2_2 : w1.cell? ⟨w.heap.size, 2, none⟩ = some (.string x.nm) := BX2.out.cell 2
      have x2_3 : w1.cell? ⟨w.heap.size, 3, none⟩ = some (.int .i64 x.ix) := BX2.out.cell 3
      have x2_4 : w1.cell? ⟨w.heap.size, 4, none⟩ = some (.int .i64 x.v.k) := BX2.out.cell 4
      have x2_5 : w1.cell? ⟨w.heap.size, 5, none⟩ = some (.int .i64 x.v.n) := BX2.out.cell 5
      have x2_6 : w1.cell? ⟨w.heap.size, 6, none⟩ = some (.string x.v.s) := BX2.out.cell 6
      have x2_7 : w1.cell? ⟨w.heap.size, 7, none⟩ = some (.slice (some ⟨b0, off, none⟩) x.args.length x.c) := BX2.out.cell 7
      have la2 : g5 < w1.heap.size := BA2.out.lt
      have lb2 : g6 < w1.heap.size := BB2.out.lt
      have lx2 : w.heap.size < w1.heap.size := BX2.out.lt
      go_wp2_with fail
      refine (I2a.out _ HB2.out).mono ?_
      rintro e w2 ⟨rfl, hb⟩
      have HB3 := Lib.hid (HB2.out.trans (hb.mono HB2.out.size))
      have BA3 := Lib.hid (BA2.out.below hb)
      have BB3 := Lib.hid (BB2.out.below hb)
      have BX3 := Lib.hid (BX2.out.below hb)
      clear hb a2_0 a2_1 a2_2 a2_3 a2_4 a2_5 a2_6 a2_7 b2_0 b2_1 b2_2 b2_3 b2_4 b2_5 b2_6 b2_7 x2_0 x2_1 x2_2 x2_3 x2_4 x2_5 x2_6 x2_7 la2 lb2 lx2
      cases i2a
      case false =>
        have HF := Lib.hid (show (-1 : Int) = r by rw [← HR.out]; simp)
        clear HR
        go_wp2
        go_ret
        exact ⟨ret_int HF.out, HB3.out⟩
      case true =>
        have a3_0 : w2.cell? ⟨g5, 0, none⟩ = some (.int .i64 a.op) := BA3.out.cell 0
        have a3_1 : w2.cell? ⟨g5, 1, none⟩ = some (.string a.tb) := BA3.out.cell 1
        have a3_2 : w2.cell? ⟨g5, 2, none⟩ = some (.string a.nm) := BA3.out.cell 2
        have a3_3 : w2.cell? ⟨g5, 3, none⟩ = some (.int .i64 a.ix) := BA3.out.cell 3
        have a3_4 : w2.cell? ⟨g5, 4, none⟩ = some (.int .i64 a.v.k) := BA3.out.cell 4
        have a3_5 : w2.cell? ⟨g5, 5, none⟩ = some (.int .i64 a.v.n) := BA3.out.cell 5
        have a3_6 : w2.cell? ⟨g5, 6, none⟩ = some (.string a.v.s) := BA3.out.cell 6
        have a3_7 : w2.cell? ⟨g5, 7, none⟩ = some (.slice a.A a.args.length a.c) := BA3.out.cell 7
        have b3_0 : w2.cell? ⟨g6, 0, none⟩ = some (.int .i64 b.op) := BB3.out.cell 0
        have b3_1 : w2.cell? ⟨g6, 1, none⟩ = some (.string b.tb) := BB3.out.cell 1
        have b3_2 : w2.cell? ⟨g6, 2, none⟩ = some (.string b.nm) := BB3.out.cell 2
        have b3_3 : w2.cell? ⟨g6, 3, none⟩ = some (.int .i64 b.ix) := BB3.out.cell 3
        have b3_4 : w2.cell? ⟨g6, 4, none⟩ = some (.int .i64 b.v.k) := BB3.out.cell 4
        have b3_5 : w2.cell? ⟨g6, 5, none⟩ = some (.int .i64 b.v.n) := BB3.out.cell 5
        have b3_6 : w2.cell? ⟨g6, 6, none⟩ = some (.string b.v.s) := BB3.out.cell 6
        have b3_7 : w2.cell? ⟨g6, 7, none⟩ = some (.slice b.A b.args.length b.c) := BB3.out.cell 7
        have x3_0 : w2.cell? ⟨w.heap.size, 0, none⟩ = some (.int .i64 15) := BX3.out.cell 0
        have x3_1 : w2.cell? ⟨w.heap.size, 1, none⟩ = some (.string x.tb) := BX3.out.cell 1
        have x3_2 : w2.cell? ⟨w.heap.size, 2, none⟩ = some (.string x.nm) := BX3.out.cell 2
        have x3_3 : w2.cell? ⟨w.heap.size, 3, none⟩ = some (.int .i64 x.ix) := BX3.out.cell 3
        have x3_4 : w2.cell? ⟨w.heap.size, 4, none⟩ = some (.int .i64 x.v.k) := BX3.out.cell 4
        have x3_5 : w2.cell? ⟨w.heap.size, 5, none⟩ = some (.int .i64 x.v.n) := BX3.out.cell 5
        have x3_6 : w2.cell? ⟨w.heap.size, 6, none⟩ = some (.string x.v.s) := BX3.out.cell 6
        have x3_7 : w2.cell? ⟨w.heap.size, 7, none⟩ = some (.slice (some ⟨b0, off, none⟩) x.args.length x.c) := BX3.out.cell 7
        have la3 : g5 < w2.heap.size := BA3.out.lt
        have lb3 : g6 < w2.heap.size := BB3.out.lt
        have lx3 : w.heap.size < w2.heap.size := BX3.out.lt
        go_wp2_with fail
        refine (I2b.out _ HB3.out).mono ?_
        rintro e w3 ⟨rfl, hb⟩
        have HB4 := Lib.hid (HB3.out.trans (hb.mono HB3.out.size))
        have BA4 := Lib.hid (BA3.out.below hb)
        have BB4 := Lib.hid (BB3.out.below hb)
        have BX4 := Lib.hid (BX3.out.below hb)
        clear hb a3_0 a3_1 a3_2 a3_3 a3_4 a3_5 a3_6 a3_7 b3_0 b3_1 b3_2 b3_3 b3_4 b3_5 b3_6 b3_7 x3_0 x3_1 x3_2 x3_3 x3_4 x3_5 x3_6 x3_7 la3 lb3 lx3
        cases i2b
        case false =>
          have HF := Lib.hid (show (-1 : Int) = r by rw [← HR.out]; simp)
          clear HR
          go_wp2
          go_ret
          exact ⟨ret_int HF.out, HB4.out⟩
        case true =>
          have HF := Lib.hid (show (3 : Int) = r by rw [← HR.out]; simp)
          clear HR
          go_wp2
          go_ret
          exact ⟨ret_int HF.out, HB4.out⟩
    case true =>
      have a2_0 : w1.cell? ⟨g5, 0, none⟩ = some (.int .i64 a.op) := BA2.out.cell 0
      have a2_1 : w1.cell? ⟨g5, 1, none⟩ = some (.string a.tb) := BA2.out.cell 1
      have a2_2 : w1.cell? ⟨g5, 2, none⟩ = some (.string a.nm) := BA2.out.cell 2
      have a2_3 : w1.cell? ⟨g5, 3, none⟩ = some (.int .i64 a.ix) := BA2.out.cell 3
      have a2_4 : w1.cell? ⟨g5, 4, none⟩ = some (.int .i64 a.v.k) := BA2.out.cell 4
      have a2_5 : w1.cell? ⟨g5, 5, none⟩ = some (.int .i64 a.v.n) := BA2.out.cell 5
      have a2_6 : w1.cell? ⟨g5, 6, none⟩ = some (.string a.v.s) := BA2.out.cell 6
      have a2_7 : w1.cell? ⟨g5, 7, none⟩ = some (.slice a.A a.args.length a.c) := BA2.out.cell 7
      have b2_0 : w1.cell? ⟨g6, 0, none⟩ = some (.int .i64 b.op) := BB2.out.cell 0
      have b2_1 : w1.cell? ⟨g6, 1, none⟩ = some (.string b.tb) := BB2.out.cell 1
      have b2_2 : w1.cell? ⟨g6, 2, none⟩ = some (.string b.nm) := BB2.out.cell 2
      have b2_3 : w1.cell? ⟨g6, 3, none⟩ = some (.int .i64 b.ix) := BB2.out.cell 3
      have b2_4 : w1.cell? ⟨g6, 4, none⟩ = some (.int .i64 b.v.k) := BB2.out.cell 4
      have b2_5 : w1.cell? ⟨g6, 5, none⟩ = some (.int .i64 b.v.n) := BB2.out.cell 5
      have b2_6 : w1.cell? ⟨g6, 6, none⟩ = some (.string b.v.s) := BB2.out.cell 6
      have b2_7 : w1.cell? ⟨g6, 7, none⟩ = some (.slice b.A b.args.length b.c) := BB2.out.cell 7
      have x2_0 : w1.cell? ⟨w.heap.size, 0, none⟩ = some (.int .i64 15) := BX2.out.cell 0
      have x2_1 : w1.cell? ⟨w.heap.size, 1, none⟩ = some (.string x.tb) := BX2.out.cell 1
      have x2_2 : w1.cell? ⟨w.heap.size, 2, none⟩ = some (.string x.nm) := BX2.out.cell 2
      have x2_3 : w1.cell? ⟨w.heap.size, 3, none⟩ = some (.int .i64 x.ix) := BX2.out.cell 3
      have x2_4 : w1.cell? ⟨w.heap.size, 4, none⟩ = some (.int .i64 x.v.k) := BX2.out.cell 4
      have x2_5 : w1.cell? ⟨w.heap.size, 5, none⟩ = some (.int .i64 x.v.n) := BX2.out.cell 5
      have x2_6 : w1.cell? ⟨w.heap.size, 6, none⟩ = some (.string x.v.s) := BX2.out.cell 6
      have x2_7 : w1.cell? ⟨w.heap.size, 7, none⟩ = some (.slice (some ⟨b0, off, none⟩) x.args.length x.c) := BX2.out.cell 7
      have la2 : g5 < w1.heap.size := BA2.out.lt
      have lb2 : g6 < w1.heap.size := BB2.out.lt
      have lx2 : w.heap.size < w1.heap.size := BX2.out.lt
      go_wp2_with fail
      refine (I1b.out _ HB2.out).mono ?_
      rintro e w2 ⟨rfl, hb⟩
      have HB3 := Lib.hid (HB2.out.trans (hb.mono HB2.out.size))
      have BA3 := Lib.hid (BA2.out.below hb)
      have BB3 := Lib.hid (BB2.out.below hb)
      have BX3 := Lib.hid (BX2.out.below hb)
      clear hb a2_0 a2_1 a2_2 a2_3 a2_4 a2_5 a2_6 a2_7 b2_0 b2_1 b2_2 b2_3 b2_4 b2_5 b2_6 b2_7 x2_0 x2_1 x2_2 x2_3 x2_4 x2_5 x2_6 x2_7 la2 lb2 lx2
      cases i1b
      case false =>
        have a3_0 : w2.cell? ⟨g5, 0, none⟩ = some (.int .i64 a.op) := BA3.out.cell 0
        have a3_1 : w2.cell? ⟨g5, 1, none⟩ = some (.string a.tb) := BA3.out.cell 1
        have a3_2 : w2.cell? ⟨g5, 2, none⟩ = some (.string a.nm) := BA3.out.cell 2
        have a3_3 : w2.cell? ⟨g5, 3, none⟩ = some (.int .i64 a.ix) := BA3.out.cell 3
        have a3_4 : w2.cell? ⟨g5, 4, none⟩ = some (.int .i64 a.v.k) := BA3.out.cell 4
        have a3_5 : w2.cell? ⟨g5, 5, none⟩ = some (.int .i64 a.v.n) := BA3.out.cell 5
        have a3_6 : w2.cell? ⟨g5, 6, none⟩ = some (.string a.v.s) := BA3.out.cell 6
        have a3_7 : w2.cell? ⟨g5, 7, none⟩ = some (.slice a.A a.args.length a.c) := BA3.out.cell 7
        have b3_0 : w2.cell? ⟨g6, 0, none⟩ = some (.int .i64 b.op) := BB3.out.cell 0
        have b3_1 : w2.cell? ⟨g6, 1, none⟩ = some (.string b.tb) := BB3.out.cell 1
        have b3_2 : w2.cell? ⟨g6, 2, none⟩ = some (.string b.nm) := BB3.out.cell 2
        have b3_3 : w2.cell? ⟨g6, 3, none⟩ = some (.int .i64 b.ix) := BB3.out.cell 3
        have b3_4 : w2.cell? ⟨g6, 4, none⟩ = some (.int .i64 b.v.k) := BB3.out.cell 4
        have b3_5 : w2.cell? ⟨g6, 5, none⟩ = some (.int .i64 b.v.n) := BB3.out.cell 5
        have b3_6 : w2.cell? ⟨g6, 6, none⟩ = some (.string b.v.s) := BB3.out.cell 6
        have b3_7 : w2.cell? ⟨g6, 7, none⟩ = some (.slice b.A b.args.length b.c) := BB3.out.cell 7
        have x3_0 : w2.cell? ⟨w.heap.size, 0, none⟩ = some (.int .i64 15) := BX3.out.cell 0
        have x3_1 : w2.cell? ⟨w.heap.size, 1, none⟩ = some (.string x.tb) := BX3.out.cell 1
        have x3_2 : w2.cell? ⟨w.heap.size, 2, none⟩ = some (.string x.nm) := BX3.out.cell 2
        have x3_3 : w2.cell? ⟨w.heap.size, 3, none⟩ = some (.int .i64 x.ix) := BX3.out.cell 3
        have x3_4 : w2.cell? ⟨w.heap.size, 4, none⟩ = some (.int .i64 x.v.k) := BX3.out.cell 4
        have x3_5 : w2.cell? ⟨w.heap.size, 5, none⟩ = some (.int .i64 x.v.n) := BX3.out.cell 5
        have x3_6 : w2.cell? ⟨w.heap.size, 6, none⟩ = some (.string x.v.s) := BX3.out.cell 6
        have x3_7 : w2.cell? ⟨w.heap.size, 7, none⟩ = some (.slice (some ⟨b0, off, none⟩) x.args.length x.c) := BX3.out.cell 7
        have la3 : g5 < w2.heap.size := BA3.out.lt
        have lb3 : g6 < w2.heap.size := BB3.out.lt
        have lx3 : w.heap.size < w2.heap.size := BX3.out.lt
        go_wp2_with fail
        refine (I2a.out _ HB3.out).mono ?_
        rintro e w3 ⟨rfl, hb⟩
        have HB4 := Lib.hid (HB3.out.trans (hb.mono HB3.out.size))
        have BA4 := Lib.hid (BA3.out.below hb)
        have BB4 := Lib.hid (BB3.out.below hb)
        have BX4 := Lib.hid (BX3.out.below hb)
        clear hb a3_0 a3_1 a3_2 a3_3 a3_4 a3_5 a3_6 a3_7 b3_0 b3_1 b3_2 b3_3 b3_4 b3_5 b3_6 b3_7 x3_0 x3_1 x3_2 x3_3 x3_4 x3_5 x3_6 x3_7 la3 lb3 lx3
        cases i2a
        case false =>
          have HF := Lib.hid (show (-1 : Int) = r by rw [← HR.out]; simp)
          clear HR
          go_wp2
          go_ret
          exact ⟨ret_int HF.out, HB4.out⟩
        case true =>
          have a4_0 : w3.cell? ⟨g5, 0, none⟩ = some (.int .i64 a.op) := BA4.out.cell 0
          have a4_1 : w3.cell? ⟨g5, 1, none⟩ = some (.string a.tb) := BA4.out.cell 1
          have a4_2 : w3.cell? ⟨g5, 2, none⟩ = some (.string a.nm) := BA4.out.cell 2
          have a4_3 : w3.cell? ⟨g5, 3, none⟩ = some (.int .i64 a.ix) := BA4.out.cell 3
          have a4_4 : w3.cell? ⟨g5, 4, none⟩ = some (.int .i64 a.v.k) := BA4.out.cell 4
          have a4_5 : w3.cell? ⟨g5, 5, none⟩ = some (.int .i64 a.v.n) := BA4.out.cell 5
          have a4_6 : w3.cell? ⟨g5, 6, none⟩ = some (.string a.v.s) := BA4.out.cell 6
          have a4_7 : w3.cell? ⟨g5, 7, none⟩ = some (.slice a.A a.args.length a.c) := BA4.out.cell 7
          have b4_0 : w3.cell? ⟨g6, 0, none⟩ = some (.int .i64 b.op) := BB4.out.cell 0
          have b4_1 : w3.cell? ⟨g6, 1, none⟩ = some (.string b.tb) := BB4.out.cell 1
          have b4_2 : w3.cell? ⟨g6, 2, none⟩ = some (.string b.nm) := BB4.out.cell 2
          have b4_3 : w3.cell? ⟨g6, 3, none⟩ = some (.int .i64 b.ix) := BB4.out.cell 3
          have b4_4 : w3.cell? ⟨g6, 4, none⟩ = some (.int .i64 b.v.k) := BB4.out.cell 4
          have b4_5 : w3.cell? ⟨g6, 5, none⟩ = some (.int .i64 b.v.n) := BB4.out.cell 5
          have b4_6 : w3.cell? ⟨g6, 6, none⟩ = some (.string b.v.s) := BB4.out.cell 6
          have b4_7 : w3.cell? ⟨g6, 7, none⟩ = some (.slice b.A b.args.length b.c) := BB4.out.cell 7
          have x4_0 : w3.cell? ⟨w.heap.size, 0, none⟩ = some (.int .i64 15) := BX4.out.cell 0
          have x4_1 : w3.cell? ⟨w.heap.size, 1, none⟩ = some (.string x.tb) := BX4.out.cell 1
          have x4_2 : w3.cell? ⟨w.heap.size, 2, none⟩ = some (.string x.nm) := BX4.out.cell 2
          have x4_3 : w3.cell? ⟨w.heap.size, 3, none⟩ = some (.int .i64 x.ix) := BX4.out.cell 3
          have x4_4 : w3.cell? ⟨w.heap.size, 4, none⟩ = some (.int .i64 x.v.k) := BX4.out.cell 4
          have x4_5 : w3.cell? ⟨w.heap.size, 5, none⟩ = some (.int .i64 x.v.n) := BX4.out.cell 5
          have x4_6 : w3.cell? ⟨w.heap.size, 6, none⟩ = some (.string x.v.s) := BX4.out.cell 6
          have x4_7 : w3.cell? ⟨w.heap.size, 7, none⟩ = some (.slice (some ⟨b0, off, none⟩) x.args.length x.c) := BX4.out.cell 7
          have la4 : g5 < w3.heap.size := BA4.out.lt
          have lb4 : g6 < w3.heap.size := BB4.out.lt
          have lx4 : w.heap.size < w3.heap.size := BX4.out.lt
          go_wp2_with fail
          refine (I2b.out _ HB4.out).mono ?_
          rintro e w4 ⟨rfl, hb⟩
          have HB5 := Lib.hid (HB4.out.trans (hb.mono HB4.out.size))
          have BA5 := Lib.hid (BA4.out.below hb)
          have BB5 := Lib.hid (BB4.out.below hb)
          have BX5 := Lib.hid (BX4.out.below hb)
          clear hb a4_0 a4_1 a4_2 a4_3 a4_4 a4_5 a4_6 a4_7 b4_0 b4_1 b4_2 b4_3 b4_4 b4_5 b4_6 b4_7 x4_0 x4_1 x4_2 x4_3 x4_4 x4_5 x4_6 x4_7 la4 lb4 lx4
          cases i2b
          case false =>
            have HF := Lib.hid (show (-1 : Int) = r by rw [← HR.out]; simp)
            clear HR
            go_wp2
            go_ret
            exact ⟨ret_int HF.out, HB5.out⟩
          case true =>
            have HF := Lib.hid (show (3 : Int) = r by rw [← HR.out]; simp)
            clear HR
            go_wp2
            go_ret
            exact ⟨ret_int HF.out, HB5.out⟩
      case true =>
        have HF := Lib.hid (show (3 : Int) = r by rw [← HR.out]; simp)
        clear HR
        go_wp2
        go_ret
        exact ⟨ret_int HF.out, HB3.out⟩
end Go.Proofs.Ytfhbffgnpedaeaa
