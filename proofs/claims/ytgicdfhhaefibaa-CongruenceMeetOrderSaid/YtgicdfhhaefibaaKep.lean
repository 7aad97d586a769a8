/- How the worlds go on in a statement that calls Meet: the cells of two classes stay as they are. -/
import Derived.Test.YtgicdfhhaefibaaMea
import Derived.Deep.RegionHeld3
import Derived.Deep.DeepCutAuto
namespace Go.Proofs.Ytgicdfhhaefibaa
open Go.Sort Go.ChangeShapes Go.WideShapes Go.ChangeAt Go.RowKit

theorem keep4 {b1 b2 : Nat} {r1 m1 r2 m2 : Value} {W w1 w2 : World} (h : w1.cell? ⟨b1, 0, none⟩ = some r1 ∧ w1.cell? ⟨b1, 1, none⟩ = some m1 ∧ w1.cell? ⟨b2, 0, none⟩ = some r2 ∧ w1.cell? ⟨b2, 1, none⟩ = some m2 ∧ Below W.heap.size W w1) (hb : Below w1.heap.size w1 w2) : w2.cell? ⟨b1, 0, none⟩ = some r1 ∧ w2.cell? ⟨b1, 1, none⟩ = some m1 ∧ w2.cell? ⟨b2, 0, none⟩ = some r2 ∧ w2.cell? ⟨b2, 1, none⟩ = some m2 ∧ Below W.heap.size W w2 :=
  ⟨keepcell hb h.1, keepcell hb h.2.1, keepcell hb h.2.2.1, keepcell hb h.2.2.2.1, more_below h.2.2.2.2 hb⟩
theorem keep4d {b1 b2 : Nat} {r1 m1 r2 m2 : Value} {W w1 : World} (h : w1.cell? ⟨b1, 0, none⟩ = some r1 ∧ w1.cell? ⟨b1, 1, none⟩ = some m1 ∧ w1.cell? ⟨b2, 0, none⟩ = some r2 ∧ w1.cell? ⟨b2, 1, none⟩ = some m2 ∧ Below W.heap.size W w1) : w1.drew.cell? ⟨b1, 0, none⟩ = some r1 ∧ w1.drew.cell? ⟨b1, 1, none⟩ = some m1 ∧ w1.drew.cell? ⟨b2, 0, none⟩ = some r2 ∧ w1.drew.cell? ⟨b2, 1, none⟩ = some m2 ∧ Below W.heap.size W w1.drew :=
  ⟨h.1, h.2.1, h.2.2.1, h.2.2.2.1, h.2.2.2.2.drew⟩
theorem keep4a {b1 b2 : Nat} {r1 m1 r2 m2 : Value} {W w1 : World} {x : Obj} (h : w1.cell? ⟨b1, 0, none⟩ = some r1 ∧ w1.cell? ⟨b1, 1, none⟩ = some m1 ∧ w1.cell? ⟨b2, 0, none⟩ = some r2 ∧ w1.cell? ⟨b2, 1, none⟩ = some m2 ∧ Below W.heap.size W w1) : (w1.alloc x).cell? ⟨b1, 0, none⟩ = some r1 ∧ (w1.alloc x).cell? ⟨b1, 1, none⟩ = some m1 ∧ (w1.alloc x).cell? ⟨b2, 0, none⟩ = some r2 ∧ (w1.alloc x).cell? ⟨b2, 1, none⟩ = some m2 ∧ Below W.heap.size W (w1.alloc x) :=
  ⟨pastcell h.1, pastcell h.2.1, pastcell h.2.2.1, pastcell h.2.2.2.1, h.2.2.2.2.alloc h.2.2.2.2.size _⟩
theorem setpast {w : World} {b o c q : Nat} {v u : Value} (hne : b ≠ c) (h : w.cell? ⟨b, o, none⟩ = some v) : (w.setCell ⟨c, q, none⟩ u).cell? ⟨b, o, none⟩ = some v :=
  (World.cell?_setCell_other _ _ _ _ (by intro e; cases e; exact hne rfl)).trans h
theorem keep4s {b1 b2 nb o : Nat} {r1 m1 r2 m2 u : Value} {W w1 : World} (h : w1.cell? ⟨b1, 0, none⟩ = some r1 ∧ w1.cell? ⟨b1, 1, none⟩ = some m1 ∧ w1.cell? ⟨b2, 0, none⟩ = some r2 ∧ w1.cell? ⟨b2, 1, none⟩ = some m2 ∧ Below W.heap.size W w1) (d1 : b1 ≠ nb) (d2 : b2 ≠ nb) (d3 : W.heap.size ≤ nb) : (w1.setCell ⟨nb, o, none⟩ u).cell? ⟨b1, 0, none⟩ = some r1 ∧ (w1.setCell ⟨nb, o, none⟩ u).cell? ⟨b1, 1, none⟩ = some m1 ∧ (w1.setCell ⟨nb, o, none⟩ u).cell? ⟨b2, 0, none⟩ = some r2 ∧ (w1.setCell ⟨nb, o, none⟩ u).cell? ⟨b2, 1, none⟩ = some m2 ∧ Below W.heap.size W (w1.setCell ⟨nb, o, none⟩ u) :=
  ⟨setpast d1 h.1, setpast d1 h.2.1, setpast d2 h.2.2.1, setpast d2 h.2.2.2.1, h.2.2.2.2.setCell d3 _⟩
theorem keep4n {b1 b2 : Nat} {r1 m1 r2 m2 : Value} {W w1 : World} {x y : Obj} (h : (w1.alloc x).cell? ⟨b1, 0, none⟩ = some r1 ∧ (w1.alloc x).cell? ⟨b1, 1, none⟩ = some m1 ∧ (w1.alloc x).cell? ⟨b2, 0, none⟩ = some r2 ∧ (w1.alloc x).cell? ⟨b2, 1, none⟩ = some m2 ∧ Below W.heap.size W (w1.alloc x)) (d1 : b1 < w1.heap.size) (d2 : b2 < w1.heap.size) (d3 : W.heap.size ≤ w1.heap.size) : (w1.alloc y).cell? ⟨b1, 0, none⟩ = some r1 ∧ (w1.alloc y).cell? ⟨b1, 1, none⟩ = some m1 ∧ (w1.alloc y).cell? ⟨b2, 0, none⟩ = some r2 ∧ (w1.alloc y).cell? ⟨b2, 1, none⟩ = some m2 ∧ Below W.heap.size W (w1.alloc y) := by
  obtain ⟨h1, h2, h3, h4, h5⟩ := h
  rw [World.cell?_alloc_past _ _ _ (by exact d1)] at h1 h2
  rw [World.cell?_alloc_past _ _ _ (by exact d2)] at h3 h4
  refine ⟨pastcell h1, pastcell h2, pastcell h3, pastcell h4, ?_⟩
  have : Below W.heap.size W w1 := ⟨h5.os, h5.tape, h5.output, d3, fun k hk => by
    have := h5.block k hk
    rwa [Below.heap_alloc _ _ _ (by omega)] at this⟩
  exact this.alloc d3 _
theorem newfroz {w : World} {x y : Value} {T : TypeId} {o : Nat} : (w.alloc (.cells #[x, y] T)).frozen? ⟨w.heap.size, o, none⟩ = false := World.frozen?_alloc_at _ _ _ _ rfl
theorem keepfroz {W w1 : World} {b o p : Nat} {v : Value} (hb : Below W.heap.size W w1) (h : W.cell? ⟨b, o, none⟩ = some v) (hf : W.frozen? ⟨b, p, none⟩ = false) : w1.frozen? ⟨b, p, none⟩ = false :=
  (hb.frozen (p := ⟨b, p, none⟩) (show b < W.heap.size from block_lt_of_cell h)).trans hf
theorem setA {w : World} {b : Nat} {u x y : Value} (h0 : w.cell? ⟨b, 0, none⟩ = some u) : ((w.setCell ⟨b, 0, none⟩ x).setCell ⟨b, 1, none⟩ y).cell? ⟨b, 0, none⟩ = some x :=
  (World.cell?_setCell_other _ _ _ _ (by simp)).trans (World.cell?_setCell_same _ _ _ h0)
theorem setB {w : World} {b : Nat} {v x y : Value} (h1 : w.cell? ⟨b, 1, none⟩ = some v) : ((w.setCell ⟨b, 0, none⟩ x).setCell ⟨b, 1, none⟩ y).cell? ⟨b, 1, none⟩ = some y :=
  World.cell?_setCell_same _ _ _ ((World.cell?_setCell_other _ _ _ _ (by simp)).trans h1)
end Go.Proofs.Ytgicdfhhaefibaa
