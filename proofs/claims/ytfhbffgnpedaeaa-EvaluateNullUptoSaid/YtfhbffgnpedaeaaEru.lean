/- The reference: the types of expressions with one operand. -/
import Derived.Test.YtfhbffgnpedaeaaEri
import Derived.Deep.Cut
namespace Go.Proofs.Ytfhbffgnpedaeaa
open Go.ChangeShapes Go.WideShapes Go.ChangeAt Go.RowKit Go.ChangeMaps

set_option maxRecDepth 100000 in
set_option maxHeartbeats 4000000 in
theorem runary_any (L : List Va) (V : Value) (x : Ex) (w : World) (h : ExAt w x) (HT : ∀ y ∈ x.args, TyAt L V y w) : Calls Try.prog 56 #[x.agg, V] w fun e w' => e = .returned (.int .i64 (match x.args.map (tyM L) with | [s] => unT x.op s | _ => -1)) ∧ Below w.heap.size w w' := by
  obtain ⟨op, hop⟩ : ∃ op, x.op = op := ⟨_, rfl⟩
  by_cases h1 : x.args.length = 1
  case neg =>
    have hr : (match x.args.map (tyM L) with | [s] => unT x.op s | _ => -1) = -1 := by
      match hx : x.args, h1 with
      | [], _ => rfl
      | [_], h => exact absurd rfl h
      | _ :: _ :: _, _ => rfl
    rw [hr]
    clear hr HT
    have e1 : ((x.args.length : Int) == 1) = false := by simp; omega
    have e2 : ((x.args.length : Int) != 1) = true := by simp; omega
    unfold Ex.agg
    rw [hop]
    obtain ⟨W0, hW0⟩ : ∃ W, W = w.alloc (.cells #[.int .i64 op, .string x.tb, .string x.nm, .int .i64 x.ix, .int .i64 x.v.k, .int .i64 x.v.n, .string x.v.s, .slice x.A x.args.length x.c] 26) := ⟨_, rfl⟩
    have HB := Lib.hid (show Below w.heap.size w W0 by rw [hW0]; exact (Below.refl _ w).alloc (Nat.le_refl _) _)
    have K2 := Lib.hid (show Blk W0 w.heap.size 26 #[.int .i64 op, .string x.tb, .string x.nm, .int .i64 x.ix, .int .i64 x.v.k, .int .i64 x.v.n, .string x.v.s, .slice x.A x.args.length x.c] by rw [hW0]; exact Blk.new _ _ _)
    have hl0 : w.heap.size < W0.heap.size := K2.out.lt
    have k7 : W0.cell? ⟨w.heap.size, 7, none⟩ = some (.slice x.A x.args.length x.c) := K2.out.cell 7
    clear h1 hop h
    go_enter Try.func56, Try.ntmps56
    go_upto_region 1 with fail
    rw [← hW0]
    clear hW0
    go_wp2
    go_ret
    exact ⟨rfl, HB.out⟩
  obtain ⟨a, ha⟩ : ∃ a, x.args = [a] := by
    match hx : x.args, h1 with
    | [a], _ => exact ⟨a, rfl⟩
  have hr0 : (match x.args.map (tyM L) with | [s] => unT x.op s | _ => -1) = unT op (tyM L a) := by rw [ha, hop]; rfl
  rw [hr0]
  have HA := HT a (by rw [ha]; simp)
  have I1 := Lib.hid (fun W (hW : Below w.heap.size w W) => is_any L V a 1 W (HA.keep hW))
  have I2 := Lib.hid (fun W (hW : Below w.heap.size w W) => is_any L V a 2 W (HA.keep hW))
  have I3 := Lib.hid (fun W (hW : Below w.heap.size w W) => is_any L V a 3 W (HA.keep hW))
  have hx0 : 0 < x.args.length := by rw [ha]; exact Nat.zero_lt_succ _
  obtain ⟨b0, off, hA, hbl, hc⟩ := h.at' hx0
  have HC := Lib.hid (fun W hW => hc W hW 0 a (by rw [ha]; rfl))
  simp only [Nat.zero_mul, Nat.add_zero, Nat.add_assoc, Nat.reduceAdd] at HC
  have e1 : ((x.args.length : Int) == 1) = true := by simp; omega
  have e2 : ((x.args.length : Int) != 1) = false := by simp; omega
  unfold Ex.agg at *
  rw [hop, hA]
  obtain ⟨s, hs⟩ : ∃ u, tyM L a = u := ⟨_, rfl⟩
  simp only [hs] at I1 I2 I3 ⊢
  obtain ⟨i1, hi1⟩ : ∃ u, isC s 1 = u := ⟨_, rfl⟩
  obtain ⟨i2, hi2⟩ : ∃ u, isC s 2 = u := ⟨_, rfl⟩
  obtain ⟨i3, hi3⟩ : ∃ u, isC s 3 = u := ⟨_, rfl⟩
  obtain ⟨r, hr⟩ : ∃ r, unT op s = r := ⟨_, rfl⟩
  rw [hr]
  unfold unT at hr
  simp only [hi1, hi2, hi3] at hr I1 I2 I3
  have HR := Lib.hid hr
  have hbw : b0 < w.heap.size := hbl
  clear hr hi1 hi2 hi3 hs hc hbl h ha hA HT HA hop hr0 h1
  obtain ⟨W0, hW0⟩ : ∃ W, W = w.alloc (.cells #[.int .i64 op, .string x.tb, .string x.nm, .int .i64 x.ix, .int .i64 x.v.k, .int .i64 x.v.n, .string x.v.s, .slice (some ⟨b0, off, none⟩) x.args.length x.c] 26) := ⟨_, rfl⟩
  have HB := Lib.hid (show Below w.heap.size w W0 by rw [hW0]; exact (Below.refl _ w).alloc (Nat.le_refl _) _)
  have K2 := Lib.hid (show Blk W0 w.heap.size 26 #[.int .i64 op, .string x.tb, .string x.nm, .int .i64 x.ix, .int .i64 x.v.k, .int .i64 x.v.n, .string x.v.s, .slice (some ⟨b0, off, none⟩) x.args.length x.c] by rw [hW0]; exact Blk.new _ _ _)
  have hl0 : w.heap.size < W0.heap.size := K2.out.lt
  have hb1 : b0 < W0.heap.size := by omega
  obtain ⟨c0, c1, c2, c3, c4, c5, c6, c7⟩ := HC.out _ HB.out
  have k0 : W0.cell? ⟨w.heap.size, 0, none⟩ = some (.int .i64 op) := K2.out.cell 0
  have k7 : W0.cell? ⟨w.heap.size, 7, none⟩ = some (.slice (some ⟨b0, off, none⟩) x.args.length x.c) := K2.out.cell 7
  go_enter Try.func56, Try.ntmps56
  go_upto_region 1 with fail
  rw [← hW0]
  clear hW0
  go_upto_region 3 with fail
  go_cut [5] from 6 (fun s5 wx => ∃ g5 : Nat, s5 = .pointer (some ⟨g5, 0, none⟩) ∧ Blk wx g5 26 #[.int .i64 a.op, .string a.tb, .string a.nm, .int .i64 a.ix, .int .i64 a.v.k, .int .i64 a.v.n, .string a.v.s, .slice a.A a.args.length a.c] ∧ Below W0.heap.size W0 wx)
  case first =>
    go_wp2_with fail
    go_meet
    case rel => exact ⟨_, rfl, Blk.new _ _ _, (Below.refl _ W0).alloc (Nat.le_refl _) _⟩
  case rest =>
    obtain ⟨g5, rfl, B1, hW⟩ := hcut
    clear c0 c1 c2 c3 c4 c5 c6 c7 k0 k7
    have HB1 := Lib.hid (HB.out.trans (hW.mono HB.out.size))
    have B1 := Lib.hid B1
    have K1 := Lib.hid (K2.out.below hW)
    have ql : w.heap.size < wc.heap.size := K1.out.lt
    clear hW K2 HB
    by_cases h3 : op = 3
    · subst h3
      have a1_0 : wc.cell? ⟨g5, 0, none⟩ = some (.int .i64 a.op) := B1.out.cell 0
      have a1_1 : wc.cell? ⟨g5, 1, none⟩ = some (.string a.tb) := B1.out.cell 1
      have a1_2 : wc.cell? ⟨g5, 2, none⟩ = some (.string a.nm) := B1.out.cell 2
      have a1_3 : wc.cell? ⟨g5, 3, none⟩ = some (.int .i64 a.ix) := B1.out.cell 3
      have a1_4 : wc.cell? ⟨g5, 4, none⟩ = some (.int .i64 a.v.k) := B1.out.cell 4
      have a1_5 : wc.cell? ⟨g5, 5, none⟩ = some (.int .i64 a.v.n) := B1.out.cell 5
      have a1_6 : wc.cell? ⟨g5, 6, none⟩ = some (.string a.v.s) := B1.out.cell 6
      have a1_7 : wc.cell? ⟨g5, 7, none⟩ = some (.slice a.A a.args.length a.c) := B1.out.cell 7
      have la1 : g5 < wc.heap.size := B1.out.lt
      have q1 : wc.cell? ⟨w.heap.size, 0, none⟩ = some (.int .i64 3) := (K1.out).cell 0
      go_wp2_with fail
      refine (I1.out _ HB1.out).mono ?_
      rintro e w1 ⟨rfl, hb⟩
      have HB2 := Lib.hid (HB1.out.trans (hb.mono HB1.out.size))
      have B2 := Lib.hid (B1.out.below hb)
      have K2 := Lib.hid (K1.out.below hb)
      clear hb
      have q2 : w1.cell? ⟨w.heap.size, 0, none⟩ = some (.int .i64 3) := K2.out.cell 0
      cases i1
      case true =>
        have HF := Lib.hid (show (1 : Int) = r by rw [← HR.out]; simp)
        clear HR
        go_wp2
        go_ret
        exact ⟨ret_int HF.out, HB2.out⟩
      have HF := Lib.hid (show (-1 : Int) = r by rw [← HR.out]; simp)
      clear HR
      go_wp2
      go_ret
      exact ⟨ret_int HF.out, HB2.out⟩
    by_cases h9 : op = 9
    · subst h9
      have a1_0 : wc.cell? ⟨g5, 0, none⟩ = some (.int .i64 a.op) := B1.out.cell 0
      have a1_1 : wc.cell? ⟨g5, 1, none⟩ = some (.string a.tb) := B1.out.cell 1
      have a1_2 : wc.cell? ⟨g5, 2, none⟩ = some (.string a.nm) := B1.out.cell 2
      have a1_3 : wc.cell? ⟨g5, 3, none⟩ = some (.int .i64 a.ix) := B1.out.cell 3
      have a1_4 : wc.cell? ⟨g5, 4, none⟩ = some (.int .i64 a.v.k) := B1.out.cell 4
      have a1_5 : wc.cell? ⟨g5, 5, none⟩ = some (.int .i64 a.v.n) := B1.out.cell 5
      have a1_6 : wc.cell? ⟨g5, 6, none⟩ = some (.string a.v.s) := B1.out.cell 6
      have a1_7 : wc.cell? ⟨g5, 7, none⟩ = some (.slice a.A a.args.length a.c) := B1.out.cell 7
      have la1 : g5 < wc.heap.size := B1.out.lt
      have q1 : wc.cell? ⟨w.heap.size, 0, none⟩ = some (.int .i64 9) := (K1.out).cell 0
      go_wp2_with fail
      refine (I2.out _ HB1.out).mono ?_
      rintro e w1 ⟨rfl, hb⟩
      have HB2 := Lib.hid (HB1.out.trans (hb.mono HB1.out.size))
      have B2 := Lib.hid (B1.out.below hb)
      have K2 := Lib.hid (K1.out.below hb)
      clear hb
      have q2 : w1.cell? ⟨w.heap.size, 0, none⟩ = some (.int .i64 9) := K2.out.cell 0
      cases i2
      case true =>
        have HF := Lib.hid (show (1 : Int) = r by rw [← HR.out]; simp)
        clear HR
        go_wp2
        go_ret
        exact ⟨ret_int HF.out, HB2.out⟩
      have HF := Lib.hid (show (-1 : Int) = r by rw [← HR.out]; simp)
      clear HR
      go_wp2
      go_ret
      exact ⟨ret_int HF.out, HB2.out⟩
    by_cases h17 : op = 17
    · subst h17
      have a1_0 : wc.cell? ⟨g5, 0, none⟩ = some (.int .i64 a.op) := B1.out.cell 0
      have a1_1 : wc.cell? ⟨g5, 1, none⟩ = some (.string a.tb) := B1.out.cell 1
      have a1_2 : wc.cell? ⟨g5, 2, none⟩ = some (.string a.nm) := B1.out.cell 2
      have a1_3 : wc.cell? ⟨g5, 3, none⟩ = some (.int .i64 a.ix) := B1.out.cell 3
      have a1_4 : wc.cell? ⟨g5, 4, none⟩ = some (.int .i64 a.v.k) := B1.out.cell 4
      have a1_5 : wc.cell? ⟨g5, 5, none⟩ = some (.int .i64 a.v.n) := B1.out.cell 5
      have a1_6 : wc.cell? ⟨g5, 6, none⟩ = some (.string a.v.s) := B1.out.cell 6
      have a1_7 : wc.cell? ⟨g5, 7, none⟩ = some (.slice a.A a.args.length a.c) := B1.out.cell 7
      have la1 : g5 < wc.heap.size := B1.out.lt
      have q1 : wc.cell? ⟨w.heap.size, 0, none⟩ = some (.int .i64 17) := (K1.out).cell 0
      go_wp2_with fail
      refine (I1.out _ HB1.out).mono ?_
      rintro e w1 ⟨rfl, hb⟩
      have HB2 := Lib.hid (HB1.out.trans (hb.mono HB1.out.size))
      have B2 := Lib.hid (B1.out.below hb)
      have K2 := Lib.hid (K1.out.below hb)
      clear hb
      have q2 : w1.cell? ⟨w.heap.size, 0, none⟩ = some (.int .i64 17) := K2.out.cell 0
      cases i1
      case true =>
        have HF := Lib.hid (show (3 : Int) = r by rw [← HR.out]; simp)
        clear HR
        go_wp2
        go_ret
        exact ⟨ret_int HF.out, HB2.out⟩
      have a2_0 : w1.cell? ⟨g5, 0, none⟩ = some (.int .i64 a.op) := B2.out.cell 0
      have a2_1 : w1.cell? ⟨g5, 1, none⟩ = some (.string a.tb) := B2.out.cell 1
      have a2_2 : w1.cell? ⟨g5, 2, none⟩ = some (.string a.nm) := B2.out.cell 2
      have a2_3 : w1.cell? ⟨g5, 3, none⟩ = some (.int .i64 a.ix) := B2.out.cell 3
      have a2_4 : w1.cell? ⟨g5, 4, none⟩ = some (.int .i64 a.v.k) := B2.out.cell 4
      have a2_5 : w1.cell? ⟨g5, 5, none⟩ = some (.int .i64 a.v.n) := B2.out.cell 5
      have a2_6 : w1.cell? ⟨g5, 6, none⟩ = some (.string a.v.s) := B2.out.cell 6
      have a2_7 : w1.cell? ⟨g5, 7, none⟩ = some (.slice a.A a.args.length a.c) := B2.out.cell 7
      have la2 : g5 < w1.heap.size := B2.out.lt
      have q2 : w1.cell? ⟨w.heap.size, 0, none⟩ = some (.int .i64 17) := (K2.out).cell 0
      go_wp2_with fail
      refine (I2.out _ HB2.out).mono ?_
      rintro e w2 ⟨rfl, hb⟩
      have HB3 := Lib.hid (HB2.out.trans (hb.mono HB2.out.size))
      have B3 := Lib.hid (B2.out.below hb)
      have K3 := Lib.hid (K2.out.below hb)
      clear hb
      have q3 : w2.cell? ⟨w.heap.size, 0, none⟩ = some (.int .i64 17) := K3.out.cell 0
      cases i2
      case true =>
        have HF := Lib.hid (show (3 : Int) = r by rw [← HR.out]; simp)
        clear HR
        go_wp2
        go_ret
        exact ⟨ret_int HF.out, HB3.out⟩
      have HF := Lib.hid (show (-1 : Int) = r by rw [← HR.out]; simp)
      clear HR
      go_wp2
      go_ret
      exact ⟨ret_int HF.out, HB3.out⟩
    by_cases h20 : op = 20
    · subst h20
      have a1_0 : wc.cell? ⟨g5, 0, none⟩ = some (.int .i64 a.op) := B1.out.cell 0
      have a1_1 : wc.cell? ⟨g5, 1, none⟩ = some (.string a.tb) := B1.out.cell 1
      have a1_2 : wc.cell? ⟨g5, 2, none⟩ = some (.string a.nm) := B1.out.cell 2
      have a1_3 : wc.cell? ⟨g5, 3, none⟩ = some (.int .i64 a.ix) := B1.out.cell 3
      have a1_4 : wc.cell? ⟨g5, 4, none⟩ = some (.int .i64 a.v.k) := B1.out.cell 4
      have a1_5 : wc.cell? ⟨g5, 5, none⟩ = some (.int .i64 a.v.n) := B1.out.cell 5
      have a1_6 : wc.cell? ⟨g5, 6, none⟩ = some (.string a.v.s) := B1.out.cell 6
      have a1_7 : wc.cell? ⟨g5, 7, none⟩ = some (.slice a.A a.args.length a.c) := B1.out.cell 7
      have la1 : g5 < wc.heap.size := B1.out.lt
      have q1 : wc.cell? ⟨w.heap.size, 0, none⟩ = some (.int .i64 20) := (K1.out).cell 0
      go_wp2_with fail
      refine (I3.out _ HB1.out).mono ?_
      rintro e w1 ⟨rfl, hb⟩
      have HB2 := Lib.hid (HB1.out.trans (hb.mono HB1.out.size))
      have B2 := Lib.hid (B1.out.below hb)
      have K2 := Lib.hid (K1.out.below hb)
      clear hb
      have q2 : w1.cell? ⟨w.heap.size, 0, none⟩ = some (.int .i64 20) := K2.out.cell 0
      cases i3
      case true =>
        have HF := Lib.hid (show (3 : Int) = r by rw [← HR.out]; simp)
        clear HR
        go_wp2
        go_ret
        exact ⟨ret_int HF.out, HB2.out⟩
      have HF := Lib.hid (show (-1 : Int) = r by rw [← HR.out]; simp)
      clear HR
      go_wp2
      go_ret
      exact ⟨ret_int HF.out, HB2.out⟩
    have f3 : (op == 3) = false := by simpa using h3
    have f9 : (op == 9) = false := by simpa using h9
    have f17 : (op == 17) = false := by simpa using h17
    have f20 : (op == 20) = false := by simpa using h20
    have q1 : wc.cell? ⟨w.heap.size, 0, none⟩ = some (.int .i64 op) := K1.out.cell 0
    have HF := Lib.hid (show (-1 : Int) = r by rw [← HR.out]; simp [h3, h9, h17, h20])
    clear HR h3 h9 h17 h20
    go_wp2
    go_ret
    exact ⟨ret_int HF.out, HB1.out⟩
end Go.Proofs.Ytfhbffgnpedaeaa
