/- The reference: the operands that must be constants; whether a type is one or absent. -/
import Derived.Test.YtfhbffgnpedaeaaEty
import Derived.BigRegion
import Derived.Deep.Cut
namespace Go.Proofs.Ytfhbffgnpedaeaa
open Go.ChangeShapes Go.WideShapes Go.ChangeAt Go.RowKit Go.ChangeMaps

set_option maxRecDepth 100000 in
set_option maxHeartbeats 4000000 in
theorem factors_any (V : Value) (x a b : Ex) (hargs : x.args = [a, b]) (hbk : BOk b) (hvk : colM b = false → VOk [] b) (w : World) (h : ExAt w x) : Calls Try.prog 57 #[x.agg, V] w fun e w' => e = .returned (.bool (facM x.op a b)) ∧ Below w.heap.size w w' := by
  have hm : a ∈ x.args := by rw [hargs]; simp
  have hm2 : b ∈ x.args := by rw [hargs]; simp
  have CA := Lib.hid (fun W (hW : Below w.heap.size w W) => Columns_any a W ((h.arg a hm).keep hW))
  have CB := Lib.hid (fun W (hW : Below w.heap.size w W) => Columns_any b W ((h.arg b hm2).keep hW))
  have CD := Lib.hid (fun W (hW : Below w.heap.size w W) => Bound_any V b hbk W ((h.arg b hm2).keep hW))
  have CV := Lib.hid (fun (hn : colM b = false) W (hW : Below w.heap.size w W) => RValue_any [] b (hvk hn) W none 0 0 ((h.arg b hm2).keep hW) ⟨rfl, fun h => absurd h (Nat.lt_irrefl 0)⟩ (fun v hv => by cases hv))
  have hx0 : 0 < x.args.length := by rw [hargs]; exact Nat.zero_lt_succ _
  have hx1 : 1 < x.args.length := by rw [hargs]; exact Nat.lt_succ_self _
  have hx1i : (1 : Int) < (x.args.length : Int) := by omega
  obtain ⟨b0, off, hA, hbl, hc⟩ := h.at' hx0
  have HC := Lib.hid (fun W hW => hc W hW 0 a (by rw [hargs]; rfl))
  have HD := Lib.hid (fun W hW => hc W hW 1 b (by rw [hargs]; rfl))
  simp only [Nat.zero_mul, Nat.add_zero, Nat.one_mul, Nat.add_assoc, Nat.reduceAdd] at HC HD
  obtain ⟨op, hop2⟩ : ∃ op, x.op = op := ⟨_, rfl⟩
  unfold Ex.agg V3.agg at *
  rw [hop2, hA]
  obtain ⟨ca, hca⟩ : ∃ u, colM a = u := ⟨_, rfl⟩
  obtain ⟨cb, hcb⟩ : ∃ u, colM b = u := ⟨_, rfl⟩
  obtain ⟨bd, hbd⟩ : ∃ u, bdM b = u := ⟨_, rfl⟩
  obtain ⟨ev, hev⟩ : ∃ u, evM [] b = u := ⟨_, rfl⟩
  obtain ⟨r, hr⟩ : ∃ r, facM op a b = r := ⟨_, rfl⟩
  rw [hr]
  unfold facM at hr
  simp only [hca, hcb, hbd, hev] at hr CA CB CD CV
  have HR := Lib.hid hr
  have hbw : b0 < w.heap.size := hbl
  clear hc hbl hca hcb hbd hev hr h hargs hm hm2 hop2 hA hbk hvk
  obtain ⟨W0, hW0⟩ : ∃ W, W = w.alloc (.cells #[.int .i64 op, .string x.tb, .string x.nm, .int .i64 x.ix, .int .i64 x.v.k, .int .i64 x.v.n, .string x.v.s, .slice (some ⟨b0, off, none⟩) x.args.length x.c] 26) := ⟨_, rfl⟩
  have HB := Lib.hid (show Below w.heap.size w W0 by rw [hW0]; exact (Below.refl _ w).alloc (Nat.le_refl _) _)
  have K2 := Lib.hid (show Blk W0 w.heap.size 26 #[.int .i64 op, .string x.tb, .string x.nm, .int .i64 x.ix, .int .i64 x.v.k, .int .i64 x.v.n, .string x.v.s, .slice (some ⟨b0, off, none⟩) x.args.length x.c] by rw [hW0]; exact Blk.new _ _ _)
  have hl0 : w.heap.size < W0.heap.size := K2.out.lt
  have hb1 : b0 < W0.heap.size := by omega
  obtain ⟨c0, c1, c2, c3, c4, c5, c6, c7⟩ := HC.out _ HB.out
  obtain ⟨d0, d1, d2, d3, d4, d5, d6, d7⟩ := HD.out _ HB.out
  have k0 : W0.cell? ⟨w.heap.size, 0, none⟩ = some (.int .i64 op) := K2.out.cell 0
  have k7 : W0.cell? ⟨w.heap.size, 7, none⟩ = some (.slice (some ⟨b0, off, none⟩) x.args.length x.c) := K2.out.cell 7
  go_enter Try.func57, Try.ntmps57
  go_upto_region 1 with fail
  rw [← hW0]
  clear hW0
  go_cut [5, 6] from 8 (fun s5 s6 wx => ∃ g5 g6 : Nat, s5 = .pointer (some ⟨g5, 0, none⟩) ∧ s6 = .pointer (some ⟨g6, 0, none⟩) ∧ Blk wx g5 26 #[.int .i64 a.op, .string a.tb, .string a.nm, .int .i64 a.ix, .int .i64 a.v.k, .int .i64 a.v.n, .string a.v.s, .slice a.A a.args.length a.c] ∧ Blk wx g6 26 #[.int .i64 b.op, .string b.tb, .string b.nm, .int .i64 b.ix, .int .i64 b.v.k, .int .i64 b.v.n, .string b.v.s, .slice b.A b.args.length b.c] ∧ Below W0.heap.size W0 wx)
  case first =>
    go_region
    · go_wp2_with fail
      go_meet
      case rel => exact ⟨_, _, rfl, rfl, ((Blk.new _ _ _).alloc _).drew, (Blk.new_ (by simp) rfl : Blk ((W0.alloc _).alloc _) _ _ _).drew, below_drew (((Below.refl _ W0).alloc (Nat.le_refl _) _).alloc (by simp) _)⟩
    · go_wp2_with fail
      go_meet
      case rel => exact ⟨_, _, rfl, rfl, (Blk.new_ (by simp) rfl : Blk ((W0.alloc _).alloc _) _ _ _).drew, ((Blk.new _ _ _).alloc _).drew, below_drew (((Below.refl _ W0).alloc (Nat.le_refl _) _).alloc (by simp) _)⟩
  case rest =>
    obtain ⟨g5, g6, rfl, rfl, B5, B6, hW⟩ := hcut
    clear c0 c1 c2 c3 c4 c5 c6 c7 d0 d1 d2 d3 d4 d5 d6 d7 k0 k7
    have HB1 := Lib.hid (HB.out.trans (hW.mono HB.out.size))
    have B5 := Lib.hid B5
    have B6 := Lib.hid B6
    have q0 : wc.cell? ⟨w.heap.size, 0, none⟩ = some (.int .i64 op) := (K2.out.below hW).cell 0
    have ql : w.heap.size < wc.heap.size := (K2.out.below hW).lt
    clear hW K2 HB
    have a_0 : wc.cell? ⟨g5, 0, none⟩ = some (.int .i64 a.op) := B5.out.cell 0
    have a_1 : wc.cell? ⟨g5, 1, none⟩ = some (.string a.tb) := B5.out.cell 1
    have a_2 : wc.cell? ⟨g5, 2, none⟩ = some (.string a.nm) := B5.out.cell 2
    have a_3 : wc.cell? ⟨g5, 3, none⟩ = some (.int .i64 a.ix) := B5.out.cell 3
    have a_4 : wc.cell? ⟨g5, 4, none⟩ = some (.int .i64 a.v.k) := B5.out.cell 4
    have a_5 : wc.cell? ⟨g5, 5, none⟩ = some (.int .i64 a.v.n) := B5.out.cell 5
    have a_6 : wc.cell? ⟨g5, 6, none⟩ = some (.string a.v.s) := B5.out.cell 6
    have a_7 : wc.cell? ⟨g5, 7, none⟩ = some (.slice a.A a.args.length a.c) := B5.out.cell 7
    have b_0 : wc.cell? ⟨g6, 0, none⟩ = some (.int .i64 b.op) := B6.out.cell 0
    have b_1 : wc.cell? ⟨g6, 1, none⟩ = some (.string b.tb) := B6.out.cell 1
    have b_2 : wc.cell? ⟨g6, 2, none⟩ = some (.string b.nm) := B6.out.cell 2
    have b_3 : wc.cell? ⟨g6, 3, none⟩ = some (.int .i64 b.ix) := B6.out.cell 3
    have b_4 : wc.cell? ⟨g6, 4, none⟩ = some (.int .i64 b.v.k) := B6.out.cell 4
    have b_5 : wc.cell? ⟨g6, 5, none⟩ = some (.int .i64 b.v.n) := B6.out.cell 5
    have b_6 : wc.cell? ⟨g6, 6, none⟩ = some (.string b.v.s) := B6.out.cell 6
    have b_7 : wc.cell? ⟨g6, 7, none⟩ = some (.slice b.A b.args.length b.c) := B6.out.cell 7
    by_cases h6 : op = 6
    · subst h6
      have HF := Lib.hid (show (!ca || !cb) = r by rw [← HR.out, if_pos rfl])
      go_wp2_with fail
      refine (CA.out _ HB1.out).mono ?_
      rintro e w1 ⟨rfl, hb⟩
      have HB2 := Lib.hid (HB1.out.trans (hb.mono HB1.out.size))
      have B6b := Lib.hid (B6.out.below hb)
      clear hb
      cases ca
      · go_wp2
        go_ret
        exact ⟨ret_bool HF.out, HB2.out⟩
      · have bb0 : w1.cell? ⟨g6, 0, none⟩ = some (.int .i64 b.op) := B6b.out.cell 0
        have bb1 : w1.cell? ⟨g6, 1, none⟩ = some (.string b.tb) := B6b.out.cell 1
        have bb2 : w1.cell? ⟨g6, 2, none⟩ = some (.string b.nm) := B6b.out.cell 2
        have bb3 : w1.cell? ⟨g6, 3, none⟩ = some (.int .i64 b.ix) := B6b.out.cell 3
        have bb4 : w1.cell? ⟨g6, 4, none⟩ = some (.int .i64 b.v.k) := B6b.out.cell 4
        have bb5 : w1.cell? ⟨g6, 5, none⟩ = some (.int .i64 b.v.n) := B6b.out.cell 5
        have bb6 : w1.cell? ⟨g6, 6, none⟩ = some (.string b.v.s) := B6b.out.cell 6
        have bb7 : w1.cell? ⟨g6, 7, none⟩ = some (.slice b.A b.args.length b.c) := B6b.out.cell 7
        go_wp2_with fail
        refine (CB.out _ HB2.out).mono ?_
        rintro e w2 ⟨rfl, hb⟩
        have HB3 := Lib.hid (HB2.out.trans (hb.mono HB2.out.size))
        clear hb
        cases cb
        · go_wp2
          go_ret
          exact ⟨ret_bool HF.out, HB3.out⟩
        · go_wp2
          go_ret
          exact ⟨ret_bool HF.out, HB3.out⟩
    have e6 : (op == 6) = false := by simpa using h6
    by_cases h7 : op < 7
    · have HF := Lib.hid (show true = r by rw [← HR.out, if_neg h6, if_pos h7])
      go_wp2
      go_ret
      exact ⟨ret_bool HF.out, HB1.out⟩
    have HR2 := Lib.hid (show (if (cb || decide (bd > 1152921504606846976)) = true then false else (decide (ev.k = 1) && (decide (1 ≤ ev.n) && decide (ev.n ≤ 1000)))) = r by rw [← HR.out, if_neg h6, if_neg h7])
    clear HR
    go_wp2_with fail
    refine (CB.out _ HB1.out).mono ?_
    rintro e w1 ⟨rfl, hb⟩
    have HB2 := Lib.hid (HB1.out.trans (hb.mono HB1.out.size))
    have B6b := Lib.hid (B6.out.below hb)
    clear hb
    cases cb
    case true =>
      have HF := Lib.hid (show false = r by rw [← HR2.out]; rfl)
      go_wp2
      go_ret
      exact ⟨ret_bool HF.out, HB2.out⟩
    have bb0 : w1.cell? ⟨g6, 0, none⟩ = some (.int .i64 b.op) := B6b.out.cell 0
    have bb1 : w1.cell? ⟨g6, 1, none⟩ = some (.string b.tb) := B6b.out.cell 1
    have bb2 : w1.cell? ⟨g6, 2, none⟩ = some (.string b.nm) := B6b.out.cell 2
    have bb3 : w1.cell? ⟨g6, 3, none⟩ = some (.int .i64 b.ix) := B6b.out.cell 3
    have bb4 : w1.cell? ⟨g6, 4, none⟩ = some (.int .i64 b.v.k) := B6b.out.cell 4
    have bb5 : w1.cell? ⟨g6, 5, none⟩ = some (.int .i64 b.v.n) := B6b.out.cell 5
    have bb6 : w1.cell? ⟨g6, 6, none⟩ = some (.string b.v.s) := B6b.out.cell 6
    have bb7 : w1.cell? ⟨g6, 7, none⟩ = some (.slice b.A b.args.length b.c) := B6b.out.cell 7
    go_wp2_with fail
    refine (CD.out _ HB2.out).mono ?_
    rintro e w2 ⟨rfl, hb⟩
    have HB3 := Lib.hid (HB2.out.trans (hb.mono HB2.out.size))
    have B6c := Lib.hid (B6b.out.below hb)
    clear hb
    by_cases hbd : bd > 1152921504606846976
    · have HF := Lib.hid (show false = r by rw [← HR2.out, decide_eq_true hbd]; rfl)
      go_wp2
      go_ret
      exact ⟨ret_bool HF.out, HB3.out⟩
    have HR3 := Lib.hid (show (decide (ev.k = 1) && (decide (1 ≤ ev.n) && decide (ev.n ≤ 1000))) = r by rw [← HR2.out, decide_eq_false hbd]; rfl)
    clear HR2
    have bc0 : w2.cell? ⟨g6, 0, none⟩ = some (.int .i64 b.op) := B6c.out.cell 0
    have bc1 : w2.cell? ⟨g6, 1, none⟩ = some (.string b.tb) := B6c.out.cell 1
    have bc2 : w2.cell? ⟨g6, 2, none⟩ = some (.string b.nm) := B6c.out.cell 2
    have bc3 : w2.cell? ⟨g6, 3, none⟩ = some (.int .i64 b.ix) := B6c.out.cell 3
    have bc4 : w2.cell? ⟨g6, 4, none⟩ = some (.int .i64 b.v.k) := B6c.out.cell 4
    have bc5 : w2.cell? ⟨g6, 5, none⟩ = some (.int .i64 b.v.n) := B6c.out.cell 5
    have bc6 : w2.cell? ⟨g6, 6, none⟩ = some (.string b.v.s) := B6c.out.cell 6
    have bc7 : w2.cell? ⟨g6, 7, none⟩ = some (.slice b.A b.args.length b.c) := B6c.out.cell 7
    go_wp2_with fail
    refine (CV.out (by trivial) _ HB3.out).mono ?_
    rintro e w3 ⟨rfl, hb⟩
    have HB4 := Lib.hid (HB3.out.trans (hb.mono HB3.out.size))
    have HB5 := Lib.hid (HB4.out.alloc (o := .cells #[.int .i64 ev.k, .int .i64 ev.n, .string ev.s] 23) HB4.out.size)
    clear hb
    obtain ⟨ek, hek⟩ : ∃ k, ev.k = k := ⟨_, rfl⟩
    obtain ⟨en, hen⟩ : ∃ k, ev.n = k := ⟨_, rfl⟩
    simp only [hek, hen] at HR3 HB5 ⊢
    clear hek hen
    by_cases g1 : ek = 1
    · subst g1
      by_cases g2 : 1 ≤ en
      · by_cases g3 : en ≤ 1000
        · have HF := Lib.hid (show true = r by rw [← HR3.out, decide_eq_true g2, decide_eq_true g3]; rfl)
          go_wp2
          go_ret
          exact ⟨ret_bool HF.out, HB5.out⟩
        · have HF := Lib.hid (show false = r by rw [← HR3.out, decide_eq_true g2, decide_eq_false g3]; rfl)
          go_wp2
          go_ret
          exact ⟨ret_bool HF.out, HB5.out⟩
      · have HF := Lib.hid (show false = r by rw [← HR3.out, decide_eq_false g2]; simp)
        go_wp2
        go_ret
        exact ⟨ret_bool HF.out, HB5.out⟩
    · have g1' : (ek == 1) = false := by simpa using g1
      have HF := Lib.hid (show false = r by rw [← HR3.out, decide_eq_false g1]; simp)
      go_wp2
      go_ret
      exact ⟨ret_bool HF.out, HB5.out⟩
end Go.Proofs.Ytfhbffgnpedaeaa
