/- The reference: a type is one or absent; the signs. -/
import Derived.Test.YtfhbffgnpedaeaaEty
import Derived.BigRegion
namespace Go.Proofs.Ytfhbffgnpedaeaa
open Go.ChangeShapes Go.WideShapes Go.ChangeAt Go.RowKit Go.ChangeMaps

/-- What a call of Type answers for one expression. -/
def TyAt (L : List Va) (V : Value) (x : Ex) (w : World) : Prop := ∀ W, Below w.heap.size w W → Calls Try.prog 52 #[x.agg, V] W fun e w' => e = .returned (.int .i64 (tyM L x)) ∧ Below W.heap.size W w'
theorem TyAt.keep {L : List Va} {V : Value} {x : Ex} {w w' : World} (h : TyAt L V x w) (hb : Below w.heap.size w w') : TyAt L V x w' := fun W hW => h W (hb.trans (hW.mono hb.size))
set_option maxRecDepth 100000 in
set_option maxHeartbeats 4000000 in
theorem is_any (L : List Va) (V : Value) (x : Ex) (t : Int) (w : World) (HT : TyAt L V x w) : Calls Try.prog 43 #[x.agg, V, .int .i64 t] w fun e w' => e = .returned (.bool (isC (tyM L x) t)) ∧ Below w.heap.size w w' := by
  obtain ⟨s, hs⟩ : ∃ s, tyM L x = s := ⟨_, rfl⟩
  unfold TyAt at HT
  simp only [hs] at HT ⊢
  obtain ⟨r, hr⟩ : ∃ r, isC s t = r := ⟨_, rfl⟩
  rw [hr]
  have HR := Lib.hid (show (decide (s = 0) || decide (s = t)) = r from hr)
  clear hr hs
  have CT := Lib.hid HT
  clear HT
  unfold Ex.agg at *
  obtain ⟨W0, hW0⟩ : ∃ W, W = w.alloc (.cells #[.int .i64 x.op, .string x.tb, .string x.nm, .int .i64 x.ix, .int .i64 x.v.k, .int .i64 x.v.n, .string x.v.s, .slice x.A x.args.length x.c] 26) := ⟨_, rfl⟩
  have HB := Lib.hid (show Below w.heap.size w W0 by rw [hW0]; exact (Below.refl _ w).alloc (Nat.le_refl _) _)
  have K2 := Lib.hid (show Blk W0 w.heap.size 26 #[.int .i64 x.op, .string x.tb, .string x.nm, .int .i64 x.ix, .int .i64 x.v.k, .int .i64 x.v.n, .string x.v.s, .slice x.A x.args.length x.c] by rw [hW0]; exact Blk.new _ _ _)
  have hl0 : w.heap.size < W0.heap.size := K2.out.lt
  have k0 : W0.cell? ⟨w.heap.size, 0, none⟩ = some (.int .i64 x.op) := K2.out.cell 0
  have k1 : W0.cell? ⟨w.heap.size, 1, none⟩ = some (.string x.tb) := K2.out.cell 1
  have k2 : W0.cell? ⟨w.heap.size, 2, none⟩ = some (.string x.nm) := K2.out.cell 2
  have k3 : W0.cell? ⟨w.heap.size, 3, none⟩ = some (.int .i64 x.ix) := K2.out.cell 3
  have k4 : W0.cell? ⟨w.heap.size, 4, none⟩ = some (.int .i64 x.v.k) := K2.out.cell 4
  have k5 : W0.cell? ⟨w.heap.size, 5, none⟩ = some (.int .i64 x.v.n) := K2.out.cell 5
  have k6 : W0.cell? ⟨w.heap.size, 6, none⟩ = some (.string x.v.s) := K2.out.cell 6
  have k7 : W0.cell? ⟨w.heap.size, 7, none⟩ = some (.slice x.A x.args.length x.c) := K2.out.cell 7
  go_enter Try.func43, Try.ntmps43
  go_upto_region 1 with fail
  rw [← hW0]
  clear hW0
  go_wp2_with fail
  refine (CT.out _ HB.out).mono ?_
  rintro e w1 ⟨rfl, hb⟩
  have HB2 := Lib.hid (HB.out.trans (hb.mono HB.out.size))
  clear hb
  by_cases h0 : s = 0
  · have HF := Lib.hid (show true = r by rw [← HR.out, decide_eq_true h0]; rfl)
    have e0 : (s == 0) = true := by simpa using h0
    clear h0
    go_wp2
    go_ret
    exact ⟨ret_bool HF.out, HB2.out⟩
  have e0 : (s == 0) = false := by simpa using h0
  by_cases h1 : s = t
  · have HF := Lib.hid (show true = r by rw [← HR.out, decide_eq_true h1]; simp)
    have e1 : (s == t) = true := by simpa using h1
    clear h1
    go_wp2
    go_ret
    exact ⟨ret_bool HF.out, HB2.out⟩
  have e1 : (s == t) = false := by simpa using h1
  have HF := Lib.hid (show false = r by rw [← HR.out, decide_eq_false h0, decide_eq_false h1]; rfl)
  clear h0 h1
  go_wp2
  go_ret
  exact ⟨ret_bool HF.out, HB2.out⟩
end Go.Proofs.Ytfhbffgnpedaeaa
