/- The laws' own bound on a case. -/
import Derived.Test.YtfhbffgnpedaeaaEft
import Derived.Test.YtfhbffgnpedaeaaErx
namespace Go.Proofs.Ytfhbffgnpedaeaa
open Go.ChangeShapes Go.WideShapes Go.ChangeAt Go.RowKit Go.ChangeMaps

def caseAgg (x : Ex) (A0 A : Option Addr) (n0 c0 n c : Nat) : Value := .agg #[.int .i64 x.op, .string x.tb, .string x.nm, .int .i64 x.ix, .int .i64 x.v.k, .int .i64 x.v.n, .string x.v.s, .slice x.A x.args.length x.c, .slice A0 n0 c0, .slice A n c]
set_option maxRecDepth 100000 in
set_option maxHeartbeats 4000000 in
theorem fits_any (L : List Va) (R : List V3) (x : Ex) (A0 A : Option Addr) (n0 c0 n c : Nat) (k : Int) (w : World) (h : ExAt w x) (hL : Vas w A0 n0 L) (hR : Vls w A n R) (hn : n ≤ 9223372036854775807) (hok : ∀ v ∈ R, v.ok) : Calls Try.prog 12 #[caseAgg x A0 A n0 c0 n c, .int .i64 k] w fun e w' => e = .returned (.bool (fitM L k x && rwM L R)) ∧ Below w.heap.size w w' := by
  have CF := Lib.hid (fun W (hW : Below w.heap.size w W) => Fits_any L A0 n0 c0 x k W (h.keep hW) (hL.below hW))
  have CR := Lib.hid (fun W (hW : Below w.heap.size w W) => Row_any L R A0 A n0 c0 n c W (hL.below hW) (hR.below hW) hn hok)
  obtain ⟨r, hr⟩ : ∃ r, (fitM L k x && rwM L R) = r := ⟨_, rfl⟩
  rw [hr]
  obtain ⟨f, hf⟩ : ∃ u, fitM L k x = u := ⟨_, rfl⟩
  obtain ⟨g, hg⟩ : ∃ u, rwM L R = u := ⟨_, rfl⟩
  simp only [hf, hg] at CF CR hr
  have HR := Lib.hid hr
  clear hr hf hg h hL hR hok
  unfold caseAgg
  unfold Ex.agg at CF
  obtain ⟨W0, hW0⟩ : ∃ W, W = w.alloc (.cells #[.int .i64 x.op, .string x.tb, .string x.nm, .int .i64 x.ix, .int .i64 x.v.k, .int .i64 x.v.n, .string x.v.s, .slice x.A x.args.length x.c, .slice A0 n0 c0, .slice A n c] 31) := ⟨_, rfl⟩
  have HB1 := Lib.hid (show Below w.heap.size w W0 by rw [hW0]; exact (Below.refl _ w).alloc (Nat.le_refl _) _)
  have K1 := Lib.hid (show Blk W0 w.heap.size 31 #[.int .i64 x.op, .string x.tb, .string x.nm, .int .i64 x.ix, .int .i64 x.v.k, .int .i64 x.v.n, .string x.v.s, .slice x.A x.args.length x.c, .slice A0 n0 c0, .slice A n c] by rw [hW0]; exact Blk.new _ _ _)
  have K1_0 : W0.cell? ⟨w.heap.size, 0, none⟩ = some (.int .i64 x.op) := K1.out.cell 0
  have K1_1 : W0.cell? ⟨w.heap.size, 1, none⟩ = some (.string x.tb) := K1.out.cell 1
  have K1_2 : W0.cell? ⟨w.heap.size, 2, none⟩ = some (.string x.nm) := K1.out.cell 2
  have K1_3 : W0.cell? ⟨w.heap.size, 3, none⟩ = some (.int .i64 x.ix) := K1.out.cell 3
  have K1_4 : W0.cell? ⟨w.heap.size, 4, none⟩ = some (.int .i64 x.v.k) := K1.out.cell 4
  have K1_5 : W0.cell? ⟨w.heap.size, 5, none⟩ = some (.int .i64 x.v.n) := K1.out.cell 5
  have K1_6 : W0.cell? ⟨w.heap.size, 6, none⟩ = some (.string x.v.s) := K1.out.cell 6
  have K1_7 : W0.cell? ⟨w.heap.size, 7, none⟩ = some (.slice x.A x.args.length x.c) := K1.out.cell 7
  have K1_8 : W0.cell? ⟨w.heap.size, 8, none⟩ = some (.slice A0 n0 c0) := K1.out.cell 8
  have K1_9 : W0.cell? ⟨w.heap.size, 9, none⟩ = some (.slice A n c) := K1.out.cell 9
  have K1_l : w.heap.size < W0.heap.size := K1.out.lt
  go_enter Try.func12, Try.ntmps12
  go_upto_region 1 with fail
  rw [← hW0]
  clear hW0
  go_wp2_with fail
  refine (CF.out _ HB1.out).mono ?_
  rintro e w1 ⟨rfl, hb⟩
  have HB2 := Lib.hid (HB1.out.trans (hb.mono HB1.out.size))
  have K2 := Lib.hid (K1.out.below hb)
  clear hb K1_0 K1_1 K1_2 K1_3 K1_4 K1_5 K1_6 K1_7 K1_8 K1_9 K1_l
  have K2_0 : w1.cell? ⟨w.heap.size, 0, none⟩ = some (.int .i64 x.op) := K2.out.cell 0
  have K2_1 : w1.cell? ⟨w.heap.size, 1, none⟩ = some (.string x.tb) := K2.out.cell 1
  have K2_2 : w1.cell? ⟨w.heap.size, 2, none⟩ = some (.string x.nm) := K2.out.cell 2
  have K2_3 : w1.cell? ⟨w.heap.size, 3, none⟩ = some (.int .i64 x.ix) := K2.out.cell 3
  have K2_4 : w1.cell? ⟨w.heap.size, 4, none⟩ = some (.int .i64 x.v.k) := K2.out.cell 4
  have K2_5 : w1.cell? ⟨w.heap.size, 5, none⟩ = some (.int .i64 x.v.n) := K2.out.cell 5
  have K2_6 : w1.cell? ⟨w.heap.size, 6, none⟩ = some (.string x.v.s) := K2.out.cell 6
  have K2_7 : w1.cell? ⟨w.heap.size, 7, none⟩ = some (.slice x.A x.args.length x.c) := K2.out.cell 7
  have K2_8 : w1.cell? ⟨w.heap.size, 8, none⟩ = some (.slice A0 n0 c0) := K2.out.cell 8
  have K2_9 : w1.cell? ⟨w.heap.size, 9, none⟩ = some (.slice A n c) := K2.out.cell 9
  have K2_l : w.heap.size < w1.heap.size := K2.out.lt
  cases f
  case false =>
    have HF := Lib.hid (show false = r by rw [← HR.out]; rfl)
    go_wp2
    go_ret
    exact ⟨ret_bool HF.out, HB2.out⟩
  go_wp2_with fail
  refine (CR.out _ HB2.out).mono ?_
  rintro e w2 ⟨rfl, hb⟩
  have HB3 := Lib.hid (HB2.out.trans (hb.mono HB2.out.size))
  clear hb
  have HF := Lib.hid (show g = r by rw [← HR.out]; rfl)
  go_wp2
  go_ret
  exact ⟨ret_bool HF.out, HB3.out⟩
end Go.Proofs.Ytfhbffgnpedaeaa
