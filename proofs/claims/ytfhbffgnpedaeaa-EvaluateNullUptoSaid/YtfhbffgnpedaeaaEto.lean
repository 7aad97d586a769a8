/- The reference: two operands under another operator. -/
import Derived.Test.YtfhbffgnpedaeaaEru
import Derived.BigRegion
import Derived.Deep.Cut
namespace Go.Proofs.Ytfhbffgnpedaeaa
open Go.ChangeShapes Go.WideShapes Go.ChangeAt Go.RowKit Go.ChangeMaps

set_option maxRecDepth 100000 in
set_option maxHeartbeats 4000000 in
theorem tyo_any (L : List Va) (V : Value) (x a b : Ex) (hargs : x.args = [a, b]) (f1 : (x.op == 1) = false) (f2 : (x.op == 2) = false) (f3 : (x.op == 3) = false) (f9 : (x.op == 9) = false) (f17 : (x.op == 17) = false) (f20 : (x.op == 20) = false) (f4 : (x.op == 4) = false) (f5 : (x.op == 5) = false) (f6 : (x.op == 6) = false) (f7 : (x.op == 7) = false) (f8 : (x.op == 8) = false) (f10 : (x.op == 10) = false) (f11 : (x.op == 11) = false) (f12 : (x.op == 12) = false) (f13 : (x.op == 13) = false) (f14 : (x.op == 14) = false) (f15 : (x.op == 15) = false) (f16 : (x.op == 16) = false) (f18 : (x.op == 18) = false) (f19 : (x.op == 19) = false) (w : World) (h : ExAt w x) : Calls Try.prog 52 #[x.agg, V] w fun e w' => e = .returned (.int .i64 (-1)) ∧ Below w.heap.size w w' := by
  have hx0 : 0 < x.args.length := by rw [hargs]; exact Nat.zero_lt_succ _
  have hx1 : 1 < x.args.length := by rw [hargs]; exact Nat.lt_succ_self _
  have hx1i : (1 : Int) < (x.args.length : Int) := by omega
  have e1 : ((x.args.length : Int) == 2) = true := by rw [hargs]; rfl
  have e2 : ((x.args.length : Int) != 2) = false := by rw [hargs]; rfl
  obtain ⟨b0, off, hA, hbl, hc⟩ := h.at' hx0
  have HC := Lib.hid (fun W hW => hc W hW 0 a (by rw [hargs]; rfl))
  have HD := Lib.hid (fun W hW => hc W hW 1 b (by rw [hargs]; rfl))
  simp only [Nat.zero_mul, Nat.add_zero, Nat.one_mul, Nat.add_assoc, Nat.reduceAdd] at HC HD
  unfold Ex.agg at *
  obtain ⟨op, ho⟩ : ∃ op, x.op = op := ⟨_, rfl⟩
  rw [ho] at f1 f2 f3 f9 f17 f20 f4 f5 f6 f7 f8 f10 f11 f12 f13 f14 f15 f16 f18 f19 ⊢
  rw [hA]

  have hbw : b0 < w.heap.size := hbl
  clear hc hbl h hargs hA ho
  obtain ⟨W0, hW0⟩ : ∃ W, W = w.alloc (.cells #[.int .i64 op, .string x.tb, .string x.nm, .int .i64 x.ix, .int .i64 x.v.k, .int .i64 x.v.n, .string x.v.s, .slice (some ⟨b0, off, none⟩) x.args.length x.c] 26) := ⟨_, rfl⟩
  have HB := Lib.hid (show Below w.heap.size w W0 by rw [hW0]; exact (Below.refl _ w).alloc (Nat.le_refl _) _)
  have K2 := Lib.hid (show Blk W0 w.heap.size 26 #[.int .i64 op, .string x.tb, .string x.nm, .int .i64 x.ix, .int .i64 x.v.k, .int .i64 x.v.n, .string x.v.s, .slice (some ⟨b0, off, none⟩) x.args.length x.c] by rw [hW0]; exact Blk.new _ _ _)
  have hl0 : w.heap.size < W0.heap.size := K2.out.lt
  have hb1 : b0 < W0.heap.size := by omega
  obtain ⟨c0, c1, c2, c3, c4, c5, c6, c7⟩ := HC.out _ HB.out
  obtain ⟨d0, d1, d2, d3, d4, d5, d6, d7⟩ := HD.out _ HB.out
  have k0 : W0.cell? ⟨w.heap.size, 0, none⟩ = some (.int .i64 op) := K2.out.cell 0
  have k7 : W0.cell? ⟨w.heap.size, 7, none⟩ = some (.slice (some ⟨b0, off, none⟩) x.args.length x.c) := K2.out.cell 7
  go_enter Try.func52, Try.ntmps52
  go_upto_region 1 with fail
  rw [← hW0]
  clear hW0
  go_upto_region 17 with fail
  go_cut [5, 6] from 7 (fun s5 s6 wx => ∃ g5 g6 : Nat, s5 = .pointer (some ⟨g5, 0, none⟩) ∧ s6 = .pointer (some ⟨g6, 0, none⟩) ∧ Blk wx g5 26 #[.int .i64 a.op, .string a.tb, .string a.nm, .int .i64 a.ix, .int .i64 a.v.k, .int .i64 a.v.n, .string a.v.s, .slice a.A a.args.length a.c] ∧ Blk wx g6 26 #[.int .i64 b.op, .string b.tb, .string b.nm, .int .i64 b.ix, .int .i64 b.v.k, .int .i64 b.v.n, .string b.v.s, .slice b.A b.args.length b.c] ∧ Below W0.heap.size W0 wx)
  case first =>
    go_region
    · go_wp2_with fail
      go_meet
      case rel => exact ⟨_, _, rfl, rfl, ((Blk.new _ _ _).alloc _).drew, (Blk.new_ (by simp) rfl : Blk ((W0.alloc _).alloc _) _ _ _).drew, below_drew (((Below.refl _ W0).alloc (Nat.le_refl _) _).alloc (by simp) _)⟩
    · go_wp2_with fail
      go_meet
      case rel => exact ⟨_, _, rfl, rfl, (Blk.new_ (by simp) rfl : Blk ((W0.alloc _).alloc _) _ _ _).drew, ((Blk.new _ _ _).alloc _).drew, below_drew (((Below.refl _ W0).alloc (Nat.le_refl _) _).alloc (by simp) _)⟩
  case rest =>
    obtain ⟨g5, g6, rfl, rfl, BA1, BB1, hW⟩ := hcut
    clear c0 c1 c2 c3 c4 c5 c6 c7 d0 d1 d2 d3 d4 d5 d6 d7 k0 k7
    have HB1 := Lib.hid (HB.out.trans (hW.mono HB.out.size))
    have BA1 := Lib.hid BA1
    have BB1 := Lib.hid BB1
    have BX1 := Lib.hid (K2.out.below hW)
    clear hW K2 HB HC HD
    have x1_0 : wc.cell? ⟨w.heap.size, 0, none⟩ = some (.int .i64 op) := BX1.out.cell 0
    have lx1 : w.heap.size < wc.heap.size := BX1.out.lt
    go_wp2
    go_ret
    exact ⟨rfl, HB1.out⟩
end Go.Proofs.Ytfhbffgnpedaeaa
