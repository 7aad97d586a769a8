/- How the worlds go on. -/
import Derived.Test.YtgcjbpiofcggcaaSes
import Derived.Deep.DeepCutAuto
namespace Go.Proofs.Ytgcjbpiofcggcaa
open Go.ChangeShapes Go.WideShapes Go.ChangeAt Go.RowKit Go.ChangeMaps

theorem setpast {w : World} {b o c q : Nat} {v u : Value} (hne : b ≠ c) (h : w.cell? ⟨b, o, none⟩ = some v) : (w.setCell ⟨c, q, none⟩ u).cell? ⟨b, o, none⟩ = some v :=
  (World.cell?_setCell_other _ _ _ _ (by intro e; cases e; exact hne rfl)).trans h
theorem keepD {p b o0 o1 : Nat} {y2 y3 y4 z0 z1 : Value} {W w1 : World} (h : w1.cell? ⟨p, 2, none⟩ = some y2 ∧ w1.cell? ⟨p, 3, none⟩ = some y3 ∧ w1.cell? ⟨p, 4, none⟩ = some y4 ∧ w1.cell? ⟨b, o0, none⟩ = some z0 ∧ w1.cell? ⟨b, o1, none⟩ = some z1 ∧ Below W.heap.size W w1) : w1.drew.cell? ⟨p, 2, none⟩ = some y2 ∧ w1.drew.cell? ⟨p, 3, none⟩ = some y3 ∧ w1.drew.cell? ⟨p, 4, none⟩ = some y4 ∧ w1.drew.cell? ⟨b, o0, none⟩ = some z0 ∧ w1.drew.cell? ⟨b, o1, none⟩ = some z1 ∧ Below W.heap.size W w1.drew := ⟨h.1, h.2.1, h.2.2.1, h.2.2.2.1, h.2.2.2.2.1, h.2.2.2.2.2.drew⟩
theorem keepA {p b o0 o1 : Nat} {y2 y3 y4 z0 z1 : Value} {W w1 : World} {x : Obj} (h : w1.cell? ⟨p, 2, none⟩ = some y2 ∧ w1.cell? ⟨p, 3, none⟩ = some y3 ∧ w1.cell? ⟨p, 4, none⟩ = some y4 ∧ w1.cell? ⟨b, o0, none⟩ = some z0 ∧ w1.cell? ⟨b, o1, none⟩ = some z1 ∧ Below W.heap.size W w1) : (w1.alloc x).cell? ⟨p, 2, none⟩ = some y2 ∧ (w1.alloc x).cell? ⟨p, 3, none⟩ = some y3 ∧ (w1.alloc x).cell? ⟨p, 4, none⟩ = some y4 ∧ (w1.alloc x).cell? ⟨b, o0, none⟩ = some z0 ∧ (w1.alloc x).cell? ⟨b, o1, none⟩ = some z1 ∧ Below W.heap.size W (w1.alloc x) := ⟨pastcell h.1, pastcell h.2.1, pastcell h.2.2.1, pastcell h.2.2.2.1, pastcell h.2.2.2.2.1, h.2.2.2.2.2.alloc h.2.2.2.2.2.size _⟩
theorem keepN {p b o0 o1 : Nat} {y2 y3 y4 z0 z1 : Value} {W w1 : World} {x y : Obj} (h : (w1.alloc x).cell? ⟨p, 2, none⟩ = some y2 ∧ (w1.alloc x).cell? ⟨p, 3, none⟩ = some y3 ∧ (w1.alloc x).cell? ⟨p, 4, none⟩ = some y4 ∧ (w1.alloc x).cell? ⟨b, o0, none⟩ = some z0 ∧ (w1.alloc x).cell? ⟨b, o1, none⟩ = some z1 ∧ Below W.heap.size W (w1.alloc x)) (d1 : p < w1.heap.size) (d2 : b < w1.heap.size) (d3 : W.heap.size ≤ w1.heap.size) : (w1.alloc y).cell? ⟨p, 2, none⟩ = some y2 ∧ (w1.alloc y).cell? ⟨p, 3, none⟩ = some y3 ∧ (w1.alloc y).cell? ⟨p, 4, none⟩ = some y4 ∧ (w1.alloc y).cell? ⟨b, o0, none⟩ = some z0 ∧ (w1.alloc y).cell? ⟨b, o1, none⟩ = some z1 ∧ Below W.heap.size W (w1.alloc y) := by
  obtain ⟨h1, h2, h3, h4, h5, h6⟩ := h
  rw [World.cell?_alloc_past _ _ _ (by exact d1)] at h1 h2 h3
  rw [World.cell?_alloc_past _ _ _ (by exact d2)] at h4 h5
  refine ⟨pastcell h1, pastcell h2, pastcell h3, pastcell h4, pastcell h5, ?_⟩
  have : Below W.heap.size W w1 := ⟨h6.os, h6.tape, h6.output, d3, fun k hk => by
    have := h6.block k hk
    rwa [Below.heap_alloc _ _ _ (by omega)] at this⟩
  exact this.alloc d3 _
end Go.Proofs.Ytgcjbpiofcggcaa
