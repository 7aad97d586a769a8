/- Constants; conditions that match. -/
import Derived.Test.YtfhbffgnpedaeaaEcd
namespace Go.Proofs.Ytfhbffgnpedaeaa
open Go.ChangeShapes Go.WideShapes Go.ChangeAt Go.RowKit Go.ChangeMaps

theorem results_c2 {fn : Func} {p q : Tmp} {ty : TypeId} (h : fn.results = #[.cell p ty, .tmp q]) (tmps : Array Value) (P : Program) (w : World) (g : Nat) (X : Value)
    (hp : tmps.getD p undef = .pointer (some ⟨g, 0, none⟩)) (h1 : (loadVar ty ⟨g, 0, none⟩).run P w = .ok X w) : (results fn tmps).run P w = .ok (.tuple #[X, tmps.getD q undef]) w := by
  have hp' : tmps[p]?.getD undef = .pointer (some ⟨g, 0, none⟩) := by simpa using hp
  simp [results, h, hp', asAddr, h1, Sem.run_bind, Result.andThen]
def constM (x : Ex) : V3 := if colM x = true then nul else evM [] x
set_option maxRecDepth 100000 in
set_option maxHeartbeats 2000000 in
theorem Constant_any (x : Ex) (w : World) (h : ExAt w x) (hsm : ExSm x) : Calls Try.prog 20 #[x.agg] w fun e w' => e = .returned (.tuple #[(constM x).agg, .int .i64 (if colM x = true then 1 else 0)]) ∧ Below w.heap.size w w' := by
  have CH := Lib.hid (fun W (hW : Below w.heap.size w W) => hasColumn_any x W (h.keep hW))
  have CV := Lib.hid (fun W (hW : Below w.heap.size w W) => Value_any [] x W none 0 0 (h.keep hW) hsm ⟨rfl, fun h => absurd h (by decide)⟩ (by decide) (fun v hv => by cases hv))
  clear h hsm
  obtain ⟨cb, hcb⟩ : ∃ b, colM x = b := ⟨_, rfl⟩
  have HE : constM x = if cb = true then nul else evM [] x := by unfold constM; rw [hcb]
  rw [HE, hcb]
  simp only [hcb] at CH
  clear HE hcb
  obtain ⟨u, hu⟩ : ∃ u, evM [] x = u := ⟨_, rfl⟩
  simp only [hu] at CV ⊢
  clear hu
  unfold Ex.agg V3.agg at *
  obtain ⟨W0, hW0⟩ : ∃ W, W = (w.alloc (.cells #[.int .i64 x.op, .string x.tb, .string x.nm, .int .i64 x.ix, .int .i64 x.v.k, .int .i64 x.v.n, .string x.v.s, .slice x.A x.args.length x.c] 26)).alloc (.cells #[.int .i64 0, .int .i64 0, .string ⟨#[]⟩] 23) := ⟨_, rfl⟩
  have HB := Lib.hid (show Below w.heap.size w W0 by rw [hW0]; exact ((Below.refl _ w).alloc (Nat.le_refl _) _).alloc (by simp) _)
  have K := Lib.hid (show Blk W0 w.heap.size 26 #[.int .i64 x.op, .string x.tb, .string x.nm, .int .i64 x.ix, .int .i64 x.v.k, .int .i64 x.v.n, .string x.v.s, .slice x.A x.args.length x.c] by rw [hW0]; exact (Blk.new _ _ _).alloc _)
  have K2 := Lib.hid (show Blk W0 (w.heap.size + 1) 23 #[.int .i64 0, .int .i64 0, .string ⟨#[]⟩] by rw [hW0]; exact Blk.new_ (by simp) rfl)
  go_enter Try.func20, Try.ntmps20
  go_wp2_with fail
  rw [← hW0]
  clear hW0
  refine (CH.out _ HB.out).mono ?_
  rintro e w1 ⟨rfl, hb⟩
  replace K := Lib.hid (K.out.below hb)
  replace K2 := Lib.hid (K2.out.below hb)
  replace HB := Lib.hid (HB.out.trans (hb.mono HB.out.size))
  clear hb
  cases cb
  · have k0 : w1.cell? ⟨w.heap.size, 0, none⟩ = some (.int .i64 x.op) := K.out.cell 0
    have k1 : w1.cell? ⟨w.heap.size, 1, none⟩ = some (.string x.tb) := K.out.cell 1
    have k2 : w1.cell? ⟨w.heap.size, 2, none⟩ = some (.string x.nm) := K.out.cell 2
    have k3 : w1.cell? ⟨w.heap.size, 3, none⟩ = some (.int .i64 x.ix) := K.out.cell 3
    have k4 : w1.cell? ⟨w.heap.size, 4, none⟩ = some (.int .i64 x.v.k) := K.out.cell 4
    have k5 : w1.cell? ⟨w.heap.size, 5, none⟩ = some (.int .i64 x.v.n) := K.out.cell 5
    have k6 : w1.cell? ⟨w.heap.size, 6, none⟩ = some (.string x.v.s) := K.out.cell 6
    have k7 : w1.cell? ⟨w.heap.size, 7, none⟩ = some (.slice x.A x.args.length x.c) := K.out.cell 7
    go_wp2_with fail
    refine (CV.out _ HB.out).mono ?_
    rintro e w2 ⟨rfl, hb⟩
    replace K2 := Lib.hid (K2.out.below hb)
    replace HB := Lib.hid (HB.out.trans (hb.mono HB.out.size))
    clear hb k0 k1 k2 k3 k4 k5 k6 k7
    go_wp2_with ((refine wpList_store_row (o := ⟨none, _, _, _, _, _⟩) rfl 23 _ _ rfl (w.heap.size + 1) #[.int .i64 u.k, .int .i64 u.n, .string u.s] rfl rfl 23 _ K2.out (by kernel_rfl) rfl (by simp [Value.oneCell']) ?_))
    have gr := grown_row w2 (w.heap.size + 1) #[.int .i64 u.k, .int .i64 u.n, .string u.s]
    refine bodyPost_ret (results_c2 rfl _ _ _ (w.heap.size + 1) _ rfl (load23 (K2.out.setRow (ds := #[.int .i64 u.k, .int .i64 u.n, .string u.s])) rfl)) rfl ?_
    exact ⟨rfl, HB.out.grown gr HB.out.size (fun j hj => by injection hj with hj; omega)⟩
  · go_wp2_with ((refine wpList_store_row (o := ⟨none, _, _, _, _, _⟩) rfl 23 _ _ rfl (w.heap.size + 1) #[.int .i64 0, .int .i64 0, .string ⟨#[]⟩] rfl rfl 23 _ K2.out (by kernel_rfl) rfl (by simp [Value.oneCell']) ?_))
    have gr := grown_row w1 (w.heap.size + 1) #[.int .i64 0, .int .i64 0, .string ⟨#[]⟩]
    refine bodyPost_ret (results_c2 rfl _ _ _ (w.heap.size + 1) _ rfl (load23 (K2.out.setRow (ds := #[.int .i64 0, .int .i64 0, .string ⟨#[]⟩])) rfl)) rfl ?_
    exact ⟨rfl, HB.out.grown gr HB.out.size (fun j hj => by injection hj with hj; omega)⟩
set_option maxRecDepth 100000 in
set_option maxHeartbeats 2000000 in
theorem Matches_any (R : List V3) (x : Ex) (w : World) (A : Option Addr) (n c : Nat) (h : ExAt w x) (hsm : ExSm x) (hrow : Vls w A n R) (hn : n ≤ 9223372036854775807) (hok : ∀ v ∈ R, v.ok) : Calls Try.prog 17 #[x.agg, .slice A n c] w fun e w' => e = .returned (.bool (decide (x.op = 0) || decide (condM R x = 1))) ∧ Below w.heap.size w w' := by
  have CC := Lib.hid (fun W (hW : Below w.heap.size w W) => Condition_any R x W A n c (h.keep hW) hsm (hrow.below hW) hn hok)
  clear h hsm hrow hok
  obtain ⟨cv, hcv⟩ : ∃ b, condM R x = b := ⟨_, rfl⟩
  simp only [hcv] at CC
  rw [hcv]
  clear hcv
  unfold Ex.agg at *
  have HB := Lib.hid (show Below w.heap.size w (w.alloc (.cells #[.int .i64 x.op, .string x.tb, .string x.nm, .int .i64 x.ix, .int .i64 x.v.k, .int .i64 x.v.n, .string x.v.s, .slice x.A x.args.length x.c] 26)) from (Below.refl _ w).alloc (Nat.le_refl _) _)
  obtain ⟨op, hop⟩ : ∃ op, x.op = op := ⟨_, rfl⟩
  rw [hop] at CC HB ⊢
  clear hop
  by_cases h0 : op = 0
  · subst h0
    go_enter Try.func17, Try.ntmps17
    go_wp2
    go_ret
    exact ⟨by simp, HB.out⟩
  have e0 : (op == 0) = false := by simpa using h0
  have hd : decide (op = 0) = false := by simpa using h0
  rw [hd]
  clear h0 hd
  by_cases h1 : cv = 1
  · subst h1
    go_enter Try.func17, Try.ntmps17
    go_wp2_with fail
    refine (CC.out _ HB.out).mono ?_
    rintro e w1 ⟨rfl, hb⟩
    replace HB := Lib.hid (HB.out.trans (hb.mono HB.out.size))
    clear hb
    go_wp2
    go_ret
    exact ⟨rfl, HB.out⟩
  · have e1 : (cv == 1) = false := by simpa using h1
    have hd : decide (cv = 1) = false := by simpa using h1
    rw [hd]
    clear h1 hd
    go_enter Try.func17, Try.ntmps17
    go_wp2_with fail
    refine (CC.out _ HB.out).mono ?_
    rintro e w1 ⟨rfl, hb⟩
    replace HB := Lib.hid (HB.out.trans (hb.mono HB.out.size))
    clear hb
    go_wp2
    go_ret
    exact ⟨rfl, HB.out⟩
end Go.Proofs.Ytfhbffgnpedaeaa
