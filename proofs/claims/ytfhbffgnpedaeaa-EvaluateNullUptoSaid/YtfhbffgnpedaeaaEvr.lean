/- Blocks written whole, results read. -/
import Derived.Test.YtfhbffgnpedaeaaEvc
import Derived.Lib.SmallJoins
namespace Go.Proofs.Ytfhbffgnpedaeaa
open Go.ChangeShapes Go.WideShapes Go.ChangeAt Go.RowKit Go.ChangeMaps

theorem grown_set (w : World) (g i : Nat) (u : Value) : w.grownBy (w.setCell ⟨g, i, none⟩ u) (some g) := ⟨rfl, rfl, rfl, by simp [World.setCell], fun k _ hk => Below.heap_setCell w _ u k (fun e => hk (by rw [e]))⟩
theorem grown_row (w : World) (g : Nat) (cs : Array Value) : w.grownBy (w.setRow g cs) (some g) := ⟨rfl, rfl, rfl, by simp, fun k _ hk => setRow_other w g k _ (fun e => hk (by rw [e]))⟩
theorem Blk.setRow {w : World} {g : Nat} {t : TypeId} {cs ds : Array Value} (h : Blk w g t cs) : Blk (w.setRow g ds) g t ds := setRow_heap w g cs ds t _ h
theorem results_c1 {fn : Func} {p : Tmp} {ty : TypeId} (h : fn.results = #[.cell p ty]) (tmps : Array Value) (P : Program) (w : World) (g : Nat) (X : Value)
    (hp : tmps.getD p undef = .pointer (some ⟨g, 0, none⟩)) (h1 : (loadVar ty ⟨g, 0, none⟩).run P w = .ok X w) : (results fn tmps).run P w = .ok X w := by
  have hp' : tmps[p]?.getD undef = .pointer (some ⟨g, 0, none⟩) := by simpa using hp
  simp [results, h, hp', asAddr, h1, Sem.run_bind, Result.andThen]
theorem load23 {w : World} {g : Nat} {cs : Array Value} (h : Blk w g 23 cs) (hs : cs.size = 3) : (loadVar 23 ⟨g, 0, none⟩).run Try.prog w = .ok (.agg cs) w :=
  run_loadVar_row w g 23 23 cs (0, 0) _ h Try.underlying23 rfl (by rw [hs]; kernel_rfl)
theorem load26 {w : World} {g : Nat} {cs : Array Value} (h : Blk w g 26 cs) (hs : cs.size = 8) : (loadVar 26 ⟨g, 0, none⟩).run Try.prog w = .ok (.agg cs) w :=
  run_loadVar_row w g 26 26 cs (0, 0) _ h Try.underlying26 rfl (by rw [hs]; kernel_rfl)
theorem store_step {W : World} {g : Nat} {T : TypeId} {cs : Array Value} (h : Blk W g T cs) (j : Nat) (v : Value) : Blk (W.setCell ⟨g, j, none⟩ v) g T (cs.setIfInBounds j v) ∧ (∀ g' T' cs', g' ≠ g → Blk W g' T' cs' → Blk (W.setCell ⟨g, j, none⟩ v) g' T' cs') ∧ (∀ B w0, Below B w0 W → B ≤ g → Below B w0 (W.setCell ⟨g, j, none⟩ v)) := by
  have gs := grown_set W g j v
  exact ⟨Joins.block_setCell h _, fun g' T' cs' hne hb => (gs.block _ hb.lt (by simp; omega)).trans hb, fun B w0 hb hg => hb.grown gs (Nat.le_trans hg (Nat.le_of_lt h.lt)) (fun j hj => by injection hj with hj; omega)⟩
end Go.Proofs.Ytfhbffgnpedaeaa
