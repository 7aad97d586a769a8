/- The reference of a session: Do, the frame. -/
import Derived.Test.YtgcjbpiofcggcaaRnx
namespace Go.Proofs.Ytgcjbpiofcggcaa
open Go.ChangeShapes Go.WideShapes Go.ChangeAt Go.RowKit Go.ChangeMaps

theorem res19 (w : World) (g : Nat) (cs : Array Value) (tm : Array Value) (hg : Blk w g 36 cs) (hs : (Try.prog.info? 36).map (·.size) = some cs.size) (h2 : tm.getD 4 undef = .pointer (some ⟨g, 0, none⟩)) :
    (results Try.f19 tm).run Try.prog w = .ok (.agg cs) w := by
  have hl := run_loadVar_row (P := Try.prog) w g 36 36 cs (0, 0) _ hg Try.underlying36 rfl hs
  rw [Array.getD_eq_getD_getElem?] at h2
  simp [results, Try.results19, h2, hl, asAddr]
theorem size36 : (Try.prog.info? 36).map (·.size) = some 4 := by kernel_rfl
theorem below_set {B p i : Nat} {w W : World} {u : Value} (h : Below B w W) (hp : B ≤ p) (hB : B ≤ W.heap.size) : Below B w (W.setCell ⟨p, i, none⟩ u) := upd_below2 h hp (grown_set _ _ _ _) hB
theorem below_set4 {B p i0 i1 i2 i3 : Nat} {w W : World} {u0 u1 u2 u3 : Value} (h : Below B w W) (hp : B ≤ p) (hB : B ≤ W.heap.size) : Below B w ((((W.setCell ⟨p, i0, none⟩ u0).setCell ⟨p, i1, none⟩ u1).setCell ⟨p, i2, none⟩ u2).setCell ⟨p, i3, none⟩ u3) :=
  have z : ∀ (X : World) (a : Addr) (u : Value), (X.setCell a u).heap.size = X.heap.size := fun X a u => by simp [World.setCell]
  below_set (below_set (below_set (below_set h hp hB) hp (by rw [z]; exact hB)) hp (by rw [z, z]; exact hB)) hp (by rw [z, z, z]; exact hB)
theorem Blk.set_other {w : World} {g p i : Nat} {t : TypeId} {cs : Array Value} {u : Value} (h : Blk w g t cs) (hne : g ≠ p) : Blk (w.setCell ⟨p, i, none⟩ u) g t cs := ((grown_set w p i u).block g h.lt (fun e => hne (by cases e; rfl))).trans h
end Go.Proofs.Ytgcjbpiofcggcaa
