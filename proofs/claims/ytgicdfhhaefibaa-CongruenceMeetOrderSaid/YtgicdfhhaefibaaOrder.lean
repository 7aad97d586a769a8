/- Law CongruenceMeetOrder: for every input the call returns true, and its arguments read afterwards as before. -/
import Derived.Test.YtgicdfhhaefibaaKep
import Derived.Test.YtgicdfhhaefibaaOrd
namespace Go.Proofs.Ytgicdfhhaefibaa
open Go.Sort Go.ChangeShapes Go.WideShapes Go.ChangeAt Go.RowKit

theorem kb3 {b0 b1 b2 : Nat} {u0 v0 u1 v1 u2 v2 : Value} {W w1 w2 : World} (h : w1.cell? ⟨b0, 0, none⟩ = some u0 ∧ w1.cell? ⟨b0, 1, none⟩ = some v0 ∧ w1.cell? ⟨b1, 0, none⟩ = some u1 ∧ w1.cell? ⟨b1, 1, none⟩ = some v1 ∧ w1.cell? ⟨b2, 0, none⟩ = some u2 ∧ w1.cell? ⟨b2, 1, none⟩ = some v2 ∧ Below W.heap.size W w1) (hb : Below w1.heap.size w1 w2) : w2.cell? ⟨b0, 0, none⟩ = some u0 ∧ w2.cell? ⟨b0, 1, none⟩ = some v0 ∧ w2.cell? ⟨b1, 0, none⟩ = some u1 ∧ w2.cell? ⟨b1, 1, none⟩ = some v1 ∧ w2.cell? ⟨b2, 0, none⟩ = some u2 ∧ w2.cell? ⟨b2, 1, none⟩ = some v2 ∧ Below W.heap.size W w2 :=
  ⟨keepcell hb h.1, keepcell hb h.2.1, keepcell hb h.2.2.1, keepcell hb h.2.2.2.1, keepcell hb h.2.2.2.2.1, keepcell hb h.2.2.2.2.2.1, more_below h.2.2.2.2.2.2 hb⟩
theorem kd3 {b0 b1 b2 : Nat} {u0 v0 u1 v1 u2 v2 : Value} {W w1 : World} (h : w1.cell? ⟨b0, 0, none⟩ = some u0 ∧ w1.cell? ⟨b0, 1, none⟩ = some v0 ∧ w1.cell? ⟨b1, 0, none⟩ = some u1 ∧ w1.cell? ⟨b1, 1, none⟩ = some v1 ∧ w1.cell? ⟨b2, 0, none⟩ = some u2 ∧ w1.cell? ⟨b2, 1, none⟩ = some v2 ∧ Below W.heap.size W w1) : w1.drew.cell? ⟨b0, 0, none⟩ = some u0 ∧ w1.drew.cell? ⟨b0, 1, none⟩ = some v0 ∧ w1.drew.cell? ⟨b1, 0, none⟩ = some u1 ∧ w1.drew.cell? ⟨b1, 1, none⟩ = some v1 ∧ w1.drew.cell? ⟨b2, 0, none⟩ = some u2 ∧ w1.drew.cell? ⟨b2, 1, none⟩ = some v2 ∧ Below W.heap.size W w1.drew :=
  ⟨h.1, h.2.1, h.2.2.1, h.2.2.2.1, h.2.2.2.2.1, h.2.2.2.2.2.1, (h.2.2.2.2.2.2).drew⟩
theorem ka3 {b0 b1 b2 : Nat} {u0 v0 u1 v1 u2 v2 : Value} {W w1 : World} {x : Obj} (h : w1.cell? ⟨b0, 0, none⟩ = some u0 ∧ w1.cell? ⟨b0, 1, none⟩ = some v0 ∧ w1.cell? ⟨b1, 0, none⟩ = some u1 ∧ w1.cell? ⟨b1, 1, none⟩ = some v1 ∧ w1.cell? ⟨b2, 0, none⟩ = some u2 ∧ w1.cell? ⟨b2, 1, none⟩ = some v2 ∧ Below W.heap.size W w1) : (w1.alloc x).cell? ⟨b0, 0, none⟩ = some u0 ∧ (w1.alloc x).cell? ⟨b0, 1, none⟩ = some v0 ∧ (w1.alloc x).cell? ⟨b1, 0, none⟩ = some u1 ∧ (w1.alloc x).cell? ⟨b1, 1, none⟩ = some v1 ∧ (w1.alloc x).cell? ⟨b2, 0, none⟩ = some u2 ∧ (w1.alloc x).cell? ⟨b2, 1, none⟩ = some v2 ∧ Below W.heap.size W (w1.alloc x) :=
  ⟨pastcell h.1, pastcell h.2.1, pastcell h.2.2.1, pastcell h.2.2.2.1, pastcell h.2.2.2.2.1, pastcell h.2.2.2.2.2.1, (h.2.2.2.2.2.2).alloc (h.2.2.2.2.2.2).size _⟩
theorem ks3 {b0 b1 b2 : Nat} {u0 v0 u1 v1 u2 v2 : Value} {W w1 : World} {nb o : Nat} {u : Value} (h : w1.cell? ⟨b0, 0, none⟩ = some u0 ∧ w1.cell? ⟨b0, 1, none⟩ = some v0 ∧ w1.cell? ⟨b1, 0, none⟩ = some u1 ∧ w1.cell? ⟨b1, 1, none⟩ = some v1 ∧ w1.cell? ⟨b2, 0, none⟩ = some u2 ∧ w1.cell? ⟨b2, 1, none⟩ = some v2 ∧ Below W.heap.size W w1) (d0 : b0 ≠ nb) (d1 : b1 ≠ nb) (d2 : b2 ≠ nb) (dB : W.heap.size ≤ nb) : (w1.setCell ⟨nb, o, none⟩ u).cell? ⟨b0, 0, none⟩ = some u0 ∧ (w1.setCell ⟨nb, o, none⟩ u).cell? ⟨b0, 1, none⟩ = some v0 ∧ (w1.setCell ⟨nb, o, none⟩ u).cell? ⟨b1, 0, none⟩ = some u1 ∧ (w1.setCell ⟨nb, o, none⟩ u).cell? ⟨b1, 1, none⟩ = some v1 ∧ (w1.setCell ⟨nb, o, none⟩ u).cell? ⟨b2, 0, none⟩ = some u2 ∧ (w1.setCell ⟨nb, o, none⟩ u).cell? ⟨b2, 1, none⟩ = some v2 ∧ Below W.heap.size W (w1.setCell ⟨nb, o, none⟩ u) :=
  ⟨setpast d0 h.1, setpast d0 h.2.1, setpast d1 h.2.2.1, setpast d1 h.2.2.2.1, setpast d2 h.2.2.2.2.1, setpast d2 h.2.2.2.2.2.1, (h.2.2.2.2.2.2).setCell dB _⟩
theorem kn3 {b0 b1 b2 : Nat} {u0 v0 u1 v1 u2 v2 : Value} {W w1 : World} {x y : Obj} (h : (w1.alloc x).cell? ⟨b0, 0, none⟩ = some u0 ∧ (w1.alloc x).cell? ⟨b0, 1, none⟩ = some v0 ∧ (w1.alloc x).cell? ⟨b1, 0, none⟩ = some u1 ∧ (w1.alloc x).cell? ⟨b1, 1, none⟩ = some v1 ∧ (w1.alloc x).cell? ⟨b2, 0, none⟩ = some u2 ∧ (w1.alloc x).cell? ⟨b2, 1, none⟩ = some v2 ∧ Below W.heap.size W (w1.alloc x)) (d0 : b0 < w1.heap.size) (d1 : b1 < w1.heap.size) (d2 : b2 < w1.heap.size) (dB : W.heap.size ≤ w1.heap.size) : (w1.alloc y).cell? ⟨b0, 0, none⟩ = some u0 ∧ (w1.alloc y).cell? ⟨b0, 1, none⟩ = some v0 ∧ (w1.alloc y).cell? ⟨b1, 0, none⟩ = some u1 ∧ (w1.alloc y).cell? ⟨b1, 1, none⟩ = some v1 ∧ (w1.alloc y).cell? ⟨b2, 0, none⟩ = some u2 ∧ (w1.alloc y).cell? ⟨b2, 1, none⟩ = some v2 ∧ Below W.heap.size W (w1.alloc y) := by
  obtain ⟨h0, h1, h2, h3, h4, h5, hB⟩ := h
  rw [World.cell?_alloc_past _ _ _ (by exact d0)] at h0 h1
  rw [World.cell?_alloc_past _ _ _ (by exact d1)] at h2 h3
  rw [World.cell?_alloc_past _ _ _ (by exact d2)] at h4 h5
  refine ⟨pastcell h0, pastcell h1, pastcell h2, pastcell h3, pastcell h4, pastcell h5, ?_⟩
  have : Below W.heap.size W w1 := ⟨hB.os, hB.tape, hB.output, dB, fun k hk => by
    have := hB.block k hk
    rwa [Below.heap_alloc _ _ _ (by omega)] at this⟩
  exact this.alloc dB _

theorem kb4 {b0 b1 b2 b3 : Nat} {u0 v0 u1 v1 u2 v2 u3 v3 : Value} {W w1 w2 : World} (h : w1.cell? ⟨b0, 0, none⟩ = some u0 ∧ w1.cell? ⟨b0, 1, none⟩ = some v0 ∧ w1.cell? ⟨b1, 0, none⟩ = some u1 ∧ w1.cell? ⟨b1, 1, none⟩ = some v1 ∧ w1.cell? ⟨b2, 0, none⟩ = some u2 ∧ w1.cell? ⟨b2, 1, none⟩ = some v2 ∧ w1.cell? ⟨b3, 0, none⟩ = some u3 ∧ w1.cell? ⟨b3, 1, none⟩ = some v3 ∧ Below W.heap.size W w1) (hb : Below w1.heap.size w1 w2) : w2.cell? ⟨b0, 0, none⟩ = some u0 ∧ w2.cell? ⟨b0, 1, none⟩ = some v0 ∧ w2.cell? ⟨b1, 0, none⟩ = some u1 ∧ w2.cell? ⟨b1, 1, none⟩ = some v1 ∧ w2.cell? ⟨b2, 0, none⟩ = some u2 ∧ w2.cell? ⟨b2, 1, none⟩ = some v2 ∧ w2.cell? ⟨b3, 0, none⟩ = some u3 ∧ w2.cell? ⟨b3, 1, none⟩ = some v3 ∧ Below W.heap.size W w2 :=
  ⟨keepcell hb h.1, keepcell hb h.2.1, keepcell hb h.2.2.1, keepcell hb h.2.2.2.1, keepcell hb h.2.2.2.2.1, keepcell hb h.2.2.2.2.2.1, keepcell hb h.2.2.2.2.2.2.1, keepcell hb h.2.2.2.2.2.2.2.1, more_below h.2.2.2.2.2.2.2.2 hb⟩
theorem kd4 {b0 b1 b2 b3 : Nat} {u0 v0 u1 v1 u2 v2 u3 v3 : Value} {W w1 : World} (h : w1.cell? ⟨b0, 0, none⟩ = some u0 ∧ w1.cell? ⟨b0, 1, none⟩ = some v0 ∧ w1.cell? ⟨b1, 0, none⟩ = some u1 ∧ w1.cell? ⟨b1, 1, none⟩ = some v1 ∧ w1.cell? ⟨b2, 0, none⟩ = some u2 ∧ w1.cell? ⟨b2, 1, none⟩ = some v2 ∧ w1.cell? ⟨b3, 0, none⟩ = some u3 ∧ w1.cell? ⟨b3, 1, none⟩ = some v3 ∧ Below W.heap.size W w1) : w1.drew.cell? ⟨b0, 0, none⟩ = some u0 ∧ w1.drew.cell? ⟨b0, 1, none⟩ = some v0 ∧ w1.drew.cell? ⟨b1, 0, none⟩ = some u1 ∧ w1.drew.cell? ⟨b1, 1, none⟩ = some v1 ∧ w1.drew.cell? ⟨b2, 0, none⟩ = some u2 ∧ w1.drew.cell? ⟨b2, 1, none⟩ = some v2 ∧ w1.drew.cell? ⟨b3, 0, none⟩ = some u3 ∧ w1.drew.cell? ⟨b3, 1, none⟩ = some v3 ∧ Below W.heap.size W w1.drew :=
  ⟨h.1, h.2.1, h.2.2.1, h.2.2.2.1, h.2.2.2.2.1, h.2.2.2.2.2.1, h.2.2.2.2.2.2.1, h.2.2.2.2.2.2.2.1, (h.2.2.2.2.2.2.2.2).drew⟩
theorem ka4 {b0 b1 b2 b3 : Nat} {u0 v0 u1 v1 u2 v2 u3 v3 : Value} {W w1 : World} {x : Obj} (h : w1.cell? ⟨b0, 0, none⟩ = some u0 ∧ w1.cell? ⟨b0, 1, none⟩ = some v0 ∧ w1.cell? ⟨b1, 0, none⟩ = some u1 ∧ w1.cell? ⟨b1, 1, none⟩ = some v1 ∧ w1.cell? ⟨b2, 0, none⟩ = some u2 ∧ w1.cell? ⟨b2, 1, none⟩ = some v2 ∧ w1.cell? ⟨b3, 0, none⟩ = some u3 ∧ w1.cell? ⟨b3, 1, none⟩ = some v3 ∧ Below W.heap.size W w1) : (w1.alloc x).cell? ⟨b0, 0, none⟩ = some u0 ∧ (w1.alloc x).cell? ⟨b0, 1, none⟩ = some v0 ∧ (w1.alloc x).cell? ⟨b1, 0, none⟩ = some u1 ∧ (w1.alloc x).cell? ⟨b1, 1, none⟩ = some v1 ∧ (w1.alloc x).cell? ⟨b2, 0, none⟩ = some u2 ∧ (w1.alloc x).cell? ⟨b2, 1, none⟩ = some v2 ∧ (w1.alloc x).cell? ⟨b3, 0, none⟩ = some u3 ∧ (w1.alloc x).cell? ⟨b3, 1, none⟩ = some v3 ∧ Below W.heap.size W (w1.alloc x) :=
  ⟨pastcell h.1, pastcell h.2.1, pastcell h.2.2.1, pastcell h.2.2.2.1, pastcell h.2.2.2.2.1, pastcell h.2.2.2.2.2.1, pastcell h.2.2.2.2.2.2.1, pastcell h.2.2.2.2.2.2.2.1, (h.2.2.2.2.2.2.2.2).alloc (h.2.2.2.2.2.2.2.2).size _⟩
theorem ks4 {b0 b1 b2 b3 : Nat} {u0 v0 u1 v1 u2 v2 u3 v3 : Value} {W w1 : World} {nb o : Nat} {u : Value} (h : w1.cell? ⟨b0, 0, none⟩ = some u0 ∧ w1.cell? ⟨b0, 1, none⟩ = some v0 ∧ w1.cell? ⟨b1, 0, none⟩ = some u1 ∧ w1.cell? ⟨b1, 1, none⟩ = some v1 ∧ w1.cell? ⟨b2, 0, none⟩ = some u2 ∧ w1.cell? ⟨b2, 1, none⟩ = some v2 ∧ w1.cell? ⟨b3, 0, none⟩ = some u3 ∧ w1.cell? ⟨b3, 1, none⟩ = some v3 ∧ Below W.heap.size W w1) (d0 : b0 ≠ nb) (d1 : b1 ≠ nb) (d2 : b2 ≠ nb) (d3 : b3 ≠ nb) (dB : W.heap.size ≤ nb) : (w1.setCell ⟨nb, o, none⟩ u).cell? ⟨b0, 0, none⟩ = some u0 ∧ (w1.setCell ⟨nb, o, none⟩ u).cell? ⟨b0, 1, none⟩ = some v0 ∧ (w1.setCell ⟨nb, o, none⟩ u).cell? ⟨b1, 0, none⟩ = some u1 ∧ (w1.setCell ⟨nb, o, none⟩ u).cell? ⟨b1, 1, none⟩ = some v1 ∧ (w1.setCell ⟨nb, o, none⟩ u).cell? ⟨b2, 0, none⟩ = some u2 ∧ (w1.setCell ⟨nb, o, none⟩ u).cell? ⟨b2, 1, none⟩ = some v2 ∧ (w1.setCell ⟨nb, o, none⟩ u).cell? ⟨b3, 0, none⟩ = some u3 ∧ (w1.setCell ⟨nb, o, none⟩ u).cell? ⟨b3, 1, none⟩ = some v3 ∧ Below W.heap.size W (w1.setCell ⟨nb, o, none⟩ u) :=
  ⟨setpast d0 h.1, setpast d0 h.2.1, setpast d1 h.2.2.1, setpast d1 h.2.2.2.1, setpast d2 h.2.2.2.2.1, setpast d2 h.2.2.2.2.2.1, setpast d3 h.2.2.2.2.2.2.1, setpast d3 h.2.2.2.2.2.2.2.1, (h.2.2.2.2.2.2.2.2).setCell dB _⟩
theorem kn4 {b0 b1 b2 b3 : Nat} {u0 v0 u1 v1 u2 v2 u3 v3 : Value} {W w1 : World} {x y : Obj} (h : (w1.alloc x).cell? ⟨b0, 0, none⟩ = some u0 ∧ (w1.alloc x).cell? ⟨b0, 1, none⟩ = some v0 ∧ (w1.alloc x).cell? ⟨b1, 0, none⟩ = some u1 ∧ (w1.alloc x).cell? ⟨b1, 1, none⟩ = some v1 ∧ (w1.alloc x).cell? ⟨b2, 0, none⟩ = some u2 ∧ (w1.alloc x).cell? ⟨b2, 1, none⟩ = some v2 ∧ (w1.alloc x).cell? ⟨b3, 0, none⟩ = some u3 ∧ (w1.alloc x).cell? ⟨b3, 1, none⟩ = some v3 ∧ Below W.heap.size W (w1.alloc x)) (d0 : b0 < w1.heap.size) (d1 : b1 < w1.heap.size) (d2 : b2 < w1.heap.size) (d3 : b3 < w1.heap.size) (dB : W.heap.size ≤ w1.heap.size) : (w1.alloc y).cell? ⟨b0, 0, none⟩ = some u0 ∧ (w1.alloc y).cell? ⟨b0, 1, none⟩ = some v0 ∧ (w1.alloc y).cell? ⟨b1, 0, none⟩ = some u1 ∧ (w1.alloc y).cell? ⟨b1, 1, none⟩ = some v1 ∧ (w1.alloc y).cell? ⟨b2, 0, none⟩ = some u2 ∧ (w1.alloc y).cell? ⟨b2, 1, none⟩ = some v2 ∧ (w1.alloc y).cell? ⟨b3, 0, none⟩ = some u3 ∧ (w1.alloc y).cell? ⟨b3, 1, none⟩ = some v3 ∧ Below W.heap.size W (w1.alloc y) := by
  obtain ⟨h0, h1, h2, h3, h4, h5, h6, h7, hB⟩ := h
  rw [World.cell?_alloc_past _ _ _ (by exact d0)] at h0 h1
  rw [World.cell?_alloc_past _ _ _ (by exact d1)] at h2 h3
  rw [World.cell?_alloc_past _ _ _ (by exact d2)] at h4 h5
  rw [World.cell?_alloc_past _ _ _ (by exact d3)] at h6 h7
  refine ⟨pastcell h0, pastcell h1, pastcell h2, pastcell h3, pastcell h4, pastcell h5, pastcell h6, pastcell h7, ?_⟩
  have : Below W.heap.size W w1 := ⟨hB.os, hB.tape, hB.output, dB, fun k hk => by
    have := hB.block k hk
    rwa [Below.heap_alloc _ _ _ (by omega)] at this⟩
  exact this.alloc dB _

set_option maxHeartbeats 16000000 in
set_option maxRecDepth 100000 in
theorem order_walk (r1 m1 r2 m2 r3 m3 x l er z lz gc X Lx ex Z Lz ez : Int) (ok rk okx okz : Bool) (w : World)
    (h1 : MeetC r1 m1 r2 m2 x l ok er) (h2 : MeetC r2 m2 r1 m1 x l ok er) (h3 : MeetC r2 m2 r3 m3 z lz rk gc) (h4 : MeetC x l r3 m3 X Lx okx ex) (h5 : MeetC r1 m1 z lz Z Lz okz ez)
    (key : er = 0 → gc = 0 → ok = true → rk = true → ex = 0 → ez = 0 → X = Z ∧ Lx = Lz ∧ okx = okz) :
    Calls Try.prog 7 #[.agg #[.int .i64 r1, .int .i64 m1], .agg #[.int .i64 r2, .int .i64 m2], .agg #[.int .i64 r3, .int .i64 m3]] w fun e w' => e = .returned (.bool true) ∧ Below w.heap.size w w' := by
  have H1 := Lib.hid h1
  have H2 := Lib.hid h2
  have H3 := Lib.hid h3
  have H4 := Lib.hid h4
  have H5 := Lib.hid h5
  have HK := Lib.hid key
  clear h1 h2 h3 h4 h5 key
  go_enter Try.func7, Try.ntmps7
  go_wp2_with fail
  refine (awake_any _).mono ?_
  rintro e wa ⟨rfl, hw⟩
  have s0 : wa.cell? ⟨w.heap.size, 0, none⟩ = some (.int .i64 r1) ∧ wa.cell? ⟨w.heap.size, 1, none⟩ = some (.int .i64 m1) ∧ wa.cell? ⟨w.heap.size + 1, 0, none⟩ = some (.int .i64 r2) ∧ wa.cell? ⟨w.heap.size + 1, 1, none⟩ = some (.int .i64 m2) ∧ wa.cell? ⟨w.heap.size + 1 + 1, 0, none⟩ = some (.int .i64 r3) ∧ wa.cell? ⟨w.heap.size + 1 + 1, 1, none⟩ = some (.int .i64 m3) ∧ Below w.heap.size w wa := by
    refine ⟨keepcell hw (pastcell (pastcell newcell0)), keepcell hw (pastcell (pastcell newcell1)), keepcell hw (pastcell (by rw [World.cell?_alloc_at _ _ _ _ (by simp)]; rfl)), keepcell hw (pastcell (by rw [World.cell?_alloc_at _ _ _ _ (by simp)]; rfl)), keepcell hw third0, keepcell hw third1, ?_⟩
    exact ((((Below.refl _ _).alloc (Nat.le_refl _) _).alloc (by simp) _).alloc (by simp; omega) _).trans (hw.mono (by simp; omega))
  have hz2 := hw.size
  simp at hz2
  obtain ⟨zm, hz1, hz3⟩ : ∃ zm, w.heap.size + 3 ≤ zm ∧ zm ≤ wa.heap.size := ⟨w.heap.size + 3, Nat.le_refl _, by omega⟩
  clear hw
  go_upto_region 3 with fail
  go_cut [7, 8, 9] (fun s7 s8 s9 wx => ∃ gx : Nat, s7 = .pointer (some ⟨gx, 0, none⟩) ∧ s8 = .bool ok ∧ s9 = .int .i64 er ∧ zm ≤ gx ∧ gx < wx.heap.size ∧ wx.cell? ⟨gx, 0, none⟩ = some (.int .i64 x) ∧ wx.cell? ⟨gx, 1, none⟩ = some (.int .i64 l) ∧ wx.cell? ⟨w.heap.size, 0, none⟩ = some (.int .i64 r1) ∧ wx.cell? ⟨w.heap.size, 1, none⟩ = some (.int .i64 m1) ∧ wx.cell? ⟨w.heap.size + 1, 0, none⟩ = some (.int .i64 r2) ∧ wx.cell? ⟨w.heap.size + 1, 1, none⟩ = some (.int .i64 m2) ∧ wx.cell? ⟨w.heap.size + 1 + 1, 0, none⟩ = some (.int .i64 r3) ∧ wx.cell? ⟨w.heap.size + 1 + 1, 1, none⟩ = some (.int .i64 m3) ∧ Below w.heap.size w wx)
  case first =>
    go_region_held3 (fun w' => w'.cell? ⟨w.heap.size, 0, none⟩ = some (.int .i64 r1) ∧ w'.cell? ⟨w.heap.size, 1, none⟩ = some (.int .i64 m1) ∧ w'.cell? ⟨w.heap.size + 1, 0, none⟩ = some (.int .i64 r2) ∧ w'.cell? ⟨w.heap.size + 1, 1, none⟩ = some (.int .i64 m2) ∧ w'.cell? ⟨w.heap.size + 1 + 1, 0, none⟩ = some (.int .i64 r3) ∧ w'.cell? ⟨w.heap.size + 1 + 1, 1, none⟩ = some (.int .i64 m3) ∧ Below w.heap.size w w') (first | exact s0 | exact kd3 s0 | exact kb3 ‹_› hb | exact ka3 ‹_› | exact kn3 ‹_› (by omega) (by omega) (by omega) (by omega) | exact ks3 (ks3 ‹_› (by omega) (by omega) (by omega) (by omega)) (by omega) (by omega) (by omega) (by omega) | exact kd3 ‹_› | go_keep)
      (first | (go_at_call 17; refine (to_any _ _ _).mono ?_; rintro e w2 ⟨rfl, hb⟩; have zz := hb.size; (try simp at zz); (first | (have n2 := keepfroz hb n0 n2; have n3 := keepfroz hb n0 n3; have n0 := keepcell hb n0; have n1 := keepcell hb n1) | (have n0 := keepcell hb newcell0; have n1 := keepcell hb newcell1; have n2 := keepfroz hb newcell0 (newfroz (o := 0)); have n3 := keepfroz hb newcell0 (newfroz (o := 1))) | skip)) | (go_at_call 19; refine (H1.out _).mono ?_; rintro e w2 ⟨rfl, hb⟩; have zz := hb.size; (try simp at zz); (first | (have n2 := keepfroz hb n0 n2; have n3 := keepfroz hb n0 n3; have n0 := keepcell hb n0; have n1 := keepcell hb n1) | (have n0 := keepcell hb newcell0; have n1 := keepcell hb newcell1; have n2 := keepfroz hb newcell0 (newfroz (o := 0)); have n3 := keepfroz hb newcell0 (newfroz (o := 1))) | skip)))
    all_goals (go_wp2_with fail; go_meet)
    all_goals first | exact ⟨_, rfl, rfl, rfl, by omega, by simp, newcell0, newcell1, ‹_›⟩ | exact ⟨_, rfl, rfl, rfl, by omega, by simp; exact block_lt_of_cell n0, setA n0, setB n1, ‹_›⟩
  case rest =>
    obtain ⟨gx, rfl, rfl, rfl, zgx, ygx, kx0, kx1, ka0, ka1, kb0, kb1, kc0, kc1, hB⟩ := hcut
    clear hz2 hz3 s0
    have s1 := And.intro ka0 (And.intro ka1 (And.intro kb0 (And.intro kb1 (And.intro kc0 (And.intro kc1 (And.intro kx0 (And.intro kx1 (hB))))))))
    go_upto_region 4 with fail
    go_cut [10, 11, 12] (fun s7 s8 s9 wx => ∃ gy : Nat, s7 = .pointer (some ⟨gy, 0, none⟩) ∧ s8 = .bool ok ∧ s9 = .int .i64 er ∧ zm ≤ gy ∧ gy < wx.heap.size ∧ wx.cell? ⟨gy, 0, none⟩ = some (.int .i64 x) ∧ wx.cell? ⟨gy, 1, none⟩ = some (.int .i64 l) ∧ wx.cell? ⟨w.heap.size, 0, none⟩ = some (.int .i64 r1) ∧ wx.cell? ⟨w.heap.size, 1, none⟩ = some (.int .i64 m1) ∧ wx.cell? ⟨w.heap.size + 1, 0, none⟩ = some (.int .i64 r2) ∧ wx.cell? ⟨w.heap.size + 1, 1, none⟩ = some (.int .i64 m2) ∧ wx.cell? ⟨w.heap.size + 1 + 1, 0, none⟩ = some (.int .i64 r3) ∧ wx.cell? ⟨w.heap.size + 1 + 1, 1, none⟩ = some (.int .i64 m3) ∧ wx.cell? ⟨gx, 0, none⟩ = some (.int .i64 x) ∧ wx.cell? ⟨gx, 1, none⟩ = some (.int .i64 l) ∧ Below w.heap.size w wx)
    case first =>
      go_region_held3 (fun w' => w'.cell? ⟨w.heap.size, 0, none⟩ = some (.int .i64 r1) ∧ w'.cell? ⟨w.heap.size, 1, none⟩ = some (.int .i64 m1) ∧ w'.cell? ⟨w.heap.size + 1, 0, none⟩ = some (.int .i64 r2) ∧ w'.cell? ⟨w.heap.size + 1, 1, none⟩ = some (.int .i64 m2) ∧ w'.cell? ⟨w.heap.size + 1 + 1, 0, none⟩ = some (.int .i64 r3) ∧ w'.cell? ⟨w.heap.size + 1 + 1, 1, none⟩ = some (.int .i64 m3) ∧ w'.cell? ⟨gx, 0, none⟩ = some (.int .i64 x) ∧ w'.cell? ⟨gx, 1, none⟩ = some (.int .i64 l) ∧ Below w.heap.size w w') (first | exact s1 | exact kd4 s1 | exact kb4 ‹_› hb | exact ka4 ‹_› | exact kn4 ‹_› (by omega) (by omega) (by omega) (by omega) (by omega) | exact ks4 (ks4 ‹_› (by omega) (by omega) (by omega) (by omega) (by omega)) (by omega) (by omega) (by omega) (by omega) (by omega) | exact kd4 ‹_› | go_keep)
        (first | (go_at_call 17; refine (to_any _ _ _).mono ?_; rintro e w2 ⟨rfl, hb⟩; have zz := hb.size; (try simp at zz); (first | (have n2 := keepfroz hb n0 n2; have n3 := keepfroz hb n0 n3; have n0 := keepcell hb n0; have n1 := keepcell hb n1) | (have n0 := keepcell hb newcell0; have n1 := keepcell hb newcell1; have n2 := keepfroz hb newcell0 (newfroz (o := 0)); have n3 := keepfroz hb newcell0 (newfroz (o := 1))) | skip)) | (go_at_call 19; refine (H2.out _).mono ?_; rintro e w2 ⟨rfl, hb⟩; have zz := hb.size; (try simp at zz); (first | (have n2 := keepfroz hb n0 n2; have n3 := keepfroz hb n0 n3; have n0 := keepcell hb n0; have n1 := keepcell hb n1) | (have n0 := keepcell hb newcell0; have n1 := keepcell hb newcell1; have n2 := keepfroz hb newcell0 (newfroz (o := 0)); have n3 := keepfroz hb newcell0 (newfroz (o := 1))) | skip)))
      all_goals (go_wp2_with fail; go_meet)
      all_goals first | exact ⟨_, rfl, rfl, rfl, by omega, by simp, newcell0, newcell1, ‹_›⟩ | exact ⟨_, rfl, rfl, rfl, by omega, by simp; exact block_lt_of_cell n0, setA n0, setB n1, ‹_›⟩
    case rest =>
      clear s1 kx0 kx1 ka0 ka1 kb0 kb1 kc0 kc1 hB
      obtain ⟨gy, rfl, rfl, rfl, zgy, ygy, ky0, ky1, ka0, ka1, kb0, kb1, kc0, kc1, kx0, kx1, hB⟩ := hcut
      have qgx : gx < _ := block_lt_of_cell kx0
      have s2 := And.intro ka0 (And.intro ka1 (And.intro kb0 (And.intro kb1 (And.intro kc0 (And.intro kc1 (And.intro kx0 (And.intro kx1 (hB))))))))
      go_upto_region 7 with fail
      go_cut [13, 14, 15] (fun s7 s8 s9 wx => ∃ gz : Nat, s7 = .pointer (some ⟨gz, 0, none⟩) ∧ s8 = .bool rk ∧ s9 = .int .i64 gc ∧ zm ≤ gz ∧ gz < wx.heap.size ∧ wx.cell? ⟨gz, 0, none⟩ = some (.int .i64 z) ∧ wx.cell? ⟨gz, 1, none⟩ = some (.int .i64 lz) ∧ wx.cell? ⟨w.heap.size, 0, none⟩ = some (.int .i64 r1) ∧ wx.cell? ⟨w.heap.size, 1, none⟩ = some (.int .i64 m1) ∧ wx.cell? ⟨w.heap.size + 1, 0, none⟩ = some (.int .i64 r2) ∧ wx.cell? ⟨w.heap.size + 1, 1, none⟩ = some (.int .i64 m2) ∧ wx.cell? ⟨w.heap.size + 1 + 1, 0, none⟩ = some (.int .i64 r3) ∧ wx.cell? ⟨w.heap.size + 1 + 1, 1, none⟩ = some (.int .i64 m3) ∧ wx.cell? ⟨gx, 0, none⟩ = some (.int .i64 x) ∧ wx.cell? ⟨gx, 1, none⟩ = some (.int .i64 l) ∧ Below w.heap.size w wx)
      case first =>
        go_region_held3 (fun w' => w'.cell? ⟨w.heap.size, 0, none⟩ = some (.int .i64 r1) ∧ w'.cell? ⟨w.heap.size, 1, none⟩ = some (.int .i64 m1) ∧ w'.cell? ⟨w.heap.size + 1, 0, none⟩ = some (.int .i64 r2) ∧ w'.cell? ⟨w.heap.size + 1, 1, none⟩ = some (.int .i64 m2) ∧ w'.cell? ⟨w.heap.size + 1 + 1, 0, none⟩ = some (.int .i64 r3) ∧ w'.cell? ⟨w.heap.size + 1 + 1, 1, none⟩ = some (.int .i64 m3) ∧ w'.cell? ⟨gx, 0, none⟩ = some (.int .i64 x) ∧ w'.cell? ⟨gx, 1, none⟩ = some (.int .i64 l) ∧ Below w.heap.size w w') (first | exact s2 | exact kd4 s2 | exact kb4 ‹_› hb | exact ka4 ‹_› | exact kn4 ‹_› (by omega) (by omega) (by omega) (by omega) (by omega) | exact ks4 (ks4 ‹_› (by omega) (by omega) (by omega) (by omega) (by omega)) (by omega) (by omega) (by omega) (by omega) (by omega) | exact kd4 ‹_› | go_keep)
          (first | (go_at_call 17; refine (to_any _ _ _).mono ?_; rintro e w2 ⟨rfl, hb⟩; have zz := hb.size; (try simp at zz); (first | (have n2 := keepfroz hb n0 n2; have n3 := keepfroz hb n0 n3; have n0 := keepcell hb n0; have n1 := keepcell hb n1) | (have n0 := keepcell hb newcell0; have n1 := keepcell hb newcell1; have n2 := keepfroz hb newcell0 (newfroz (o := 0)); have n3 := keepfroz hb newcell0 (newfroz (o := 1))) | skip)) | (go_at_call 19; refine (H3.out _).mono ?_; rintro e w2 ⟨rfl, hb⟩; have zz := hb.size; (try simp at zz); (first | (have n2 := keepfroz hb n0 n2; have n3 := keepfroz hb n0 n3; have n0 := keepcell hb n0; have n1 := keepcell hb n1) | (have n0 := keepcell hb newcell0; have n1 := keepcell hb newcell1; have n2 := keepfroz hb newcell0 (newfroz (o := 0)); have n3 := keepfroz hb newcell0 (newfroz (o := 1))) | skip)))
        all_goals (go_wp2_with fail; go_meet)
        all_goals first | exact ⟨_, rfl, rfl, rfl, by omega, by simp, newcell0, newcell1, ‹_›⟩ | exact ⟨_, rfl, rfl, rfl, by omega, by simp; exact block_lt_of_cell n0, setA n0, setB n1, ‹_›⟩
      case rest =>
        clear s2 ky0 ky1 kx0 kx1 ka0 ka1 kb0 kb1 kc0 kc1 hB
        obtain ⟨gz, rfl, rfl, rfl, zgz, ygz, kz0, kz1, ka0, ka1, kb0, kb1, kc0, kc1, kx0, kx1, hB⟩ := hcut
        have qgx : gx < _ := block_lt_of_cell kx0
        by_cases he : er = 0
        · by_cases hg : gc = 0
          · cases ok
            · subst he; subst hg; go_wp2; go_ret; exact ⟨rfl, hB⟩
            · cases rk
              · subst he; subst hg; go_wp2; go_ret; exact ⟨rfl, hB⟩
              · subst he; subst hg
                have K2 := Lib.hid (HK.out rfl rfl rfl rfl)
                have s3 := And.intro ka0 (And.intro ka1 (And.intro kc0 (And.intro kc1 (And.intro kx0 (And.intro kx1 (And.intro kz0 (And.intro kz1 (hB))))))))
                go_upto_region 10 with fail
                go_cut [16, 17, 18] (fun s7 s8 s9 wx => ∃ gl : Nat, s7 = .pointer (some ⟨gl, 0, none⟩) ∧ s8 = .bool okx ∧ s9 = .int .i64 ex ∧ zm ≤ gl ∧ gl < wx.heap.size ∧ wx.cell? ⟨gl, 0, none⟩ = some (.int .i64 X) ∧ wx.cell? ⟨gl, 1, none⟩ = some (.int .i64 Lx) ∧ wx.cell? ⟨w.heap.size, 0, none⟩ = some (.int .i64 r1) ∧ wx.cell? ⟨w.heap.size, 1, none⟩ = some (.int .i64 m1) ∧ wx.cell? ⟨w.heap.size + 1 + 1, 0, none⟩ = some (.int .i64 r3) ∧ wx.cell? ⟨w.heap.size + 1 + 1, 1, none⟩ = some (.int .i64 m3) ∧ wx.cell? ⟨gx, 0, none⟩ = some (.int .i64 x) ∧ wx.cell? ⟨gx, 1, none⟩ = some (.int .i64 l) ∧ wx.cell? ⟨gz, 0, none⟩ = some (.int .i64 z) ∧ wx.cell? ⟨gz, 1, none⟩ = some (.int .i64 lz) ∧ Below w.heap.size w wx)
                case first =>
                  go_region_held3 (fun w' => w'.cell? ⟨w.heap.size, 0, none⟩ = some (.int .i64 r1) ∧ w'.cell? ⟨w.heap.size, 1, none⟩ = some (.int .i64 m1) ∧ w'.cell? ⟨w.heap.size + 1 + 1, 0, none⟩ = some (.int .i64 r3) ∧ w'.cell? ⟨w.heap.size + 1 + 1, 1, none⟩ = some (.int .i64 m3) ∧ w'.cell? ⟨gx, 0, none⟩ = some (.int .i64 x) ∧ w'.cell? ⟨gx, 1, none⟩ = some (.int .i64 l) ∧ w'.cell? ⟨gz, 0, none⟩ = some (.int .i64 z) ∧ w'.cell? ⟨gz, 1, none⟩ = some (.int .i64 lz) ∧ Below w.heap.size w w') (first | exact s3 | exact kd4 s3 | exact kb4 ‹_› hb | exact ka4 ‹_› | exact kn4 ‹_› (by omega) (by omega) (by omega) (by omega) (by omega) | exact ks4 (ks4 ‹_› (by omega) (by omega) (by omega) (by omega) (by omega)) (by omega) (by omega) (by omega) (by omega) (by omega) | exact kd4 ‹_› | go_keep)
                    (first | (go_at_call 17; refine (to_any _ _ _).mono ?_; rintro e w2 ⟨rfl, hb⟩; have zz := hb.size; (try simp at zz); (first | (have n2 := keepfroz hb n0 n2; have n3 := keepfroz hb n0 n3; have n0 := keepcell hb n0; have n1 := keepcell hb n1) | (have n0 := keepcell hb newcell0; have n1 := keepcell hb newcell1; have n2 := keepfroz hb newcell0 (newfroz (o := 0)); have n3 := keepfroz hb newcell0 (newfroz (o := 1))) | skip)) | (go_at_call 19; refine (H4.out _).mono ?_; rintro e w2 ⟨rfl, hb⟩; have zz := hb.size; (try simp at zz); (first | (have n2 := keepfroz hb n0 n2; have n3 := keepfroz hb n0 n3; have n0 := keepcell hb n0; have n1 := keepcell hb n1) | (have n0 := keepcell hb newcell0; have n1 := keepcell hb newcell1; have n2 := keepfroz hb newcell0 (newfroz (o := 0)); have n3 := keepfroz hb newcell0 (newfroz (o := 1))) | skip)))
                  all_goals (go_wp2_with fail; go_meet)
                  all_goals first | exact ⟨_, rfl, rfl, rfl, by omega, by simp, newcell0, newcell1, ‹_›⟩ | exact ⟨_, rfl, rfl, rfl, by omega, by simp; exact block_lt_of_cell n0, setA n0, setB n1, ‹_›⟩
                case rest =>
                  clear s3 kx0 kx1 kz0 kz1 ka0 ka1 kb0 kb1 kc0 kc1 hB
                  obtain ⟨gl, rfl, rfl, rfl, zgl, ygl, kl0, kl1, ka0, ka1, kc0, kc1, kx0, kx1, kz0, kz1, hB⟩ := hcut
                  have qgx : gx < _ := block_lt_of_cell kx0
                  have qgz : gz < _ := block_lt_of_cell kz0
                  have s4 := And.intro ka0 (And.intro ka1 (And.intro kz0 (And.intro kz1 (And.intro kl0 (And.intro kl1 (hB))))))
                  go_upto_region 11 with fail
                  go_cut [19, 20, 21] (fun s7 s8 s9 wx => ∃ gr : Nat, s7 = .pointer (some ⟨gr, 0, none⟩) ∧ s8 = .bool okz ∧ s9 = .int .i64 ez ∧ zm ≤ gr ∧ gr < wx.heap.size ∧ wx.cell? ⟨gr, 0, none⟩ = some (.int .i64 Z) ∧ wx.cell? ⟨gr, 1, none⟩ = some (.int .i64 Lz) ∧ wx.cell? ⟨w.heap.size, 0, none⟩ = some (.int .i64 r1) ∧ wx.cell? ⟨w.heap.size, 1, none⟩ = some (.int .i64 m1) ∧ wx.cell? ⟨gz, 0, none⟩ = some (.int .i64 z) ∧ wx.cell? ⟨gz, 1, none⟩ = some (.int .i64 lz) ∧ wx.cell? ⟨gl, 0, none⟩ = some (.int .i64 X) ∧ wx.cell? ⟨gl, 1, none⟩ = some (.int .i64 Lx) ∧ Below w.heap.size w wx)
                  case first =>
                    go_region_held3 (fun w' => w'.cell? ⟨w.heap.size, 0, none⟩ = some (.int .i64 r1) ∧ w'.cell? ⟨w.heap.size, 1, none⟩ = some (.int .i64 m1) ∧ w'.cell? ⟨gz, 0, none⟩ = some (.int .i64 z) ∧ w'.cell? ⟨gz, 1, none⟩ = some (.int .i64 lz) ∧ w'.cell? ⟨gl, 0, none⟩ = some (.int .i64 X) ∧ w'.cell? ⟨gl, 1, none⟩ = some (.int .i64 Lx) ∧ Below w.heap.size w w') (first | exact s4 | exact kd3 s4 | exact kb3 ‹_› hb | exact ka3 ‹_› | exact kn3 ‹_› (by omega) (by omega) (by omega) (by omega) | exact ks3 (ks3 ‹_› (by omega) (by omega) (by omega) (by omega)) (by omega) (by omega) (by omega) (by omega) | exact kd3 ‹_› | go_keep)
                      (first | (go_at_call 17; refine (to_any _ _ _).mono ?_; rintro e w2 ⟨rfl, hb⟩; have zz := hb.size; (try simp at zz); (first | (have n2 := keepfroz hb n0 n2; have n3 := keepfroz hb n0 n3; have n0 := keepcell hb n0; have n1 := keepcell hb n1) | (have n0 := keepcell hb newcell0; have n1 := keepcell hb newcell1; have n2 := keepfroz hb newcell0 (newfroz (o := 0)); have n3 := keepfroz hb newcell0 (newfroz (o := 1))) | skip)) | (go_at_call 19; refine (H5.out _).mono ?_; rintro e w2 ⟨rfl, hb⟩; have zz := hb.size; (try simp at zz); (first | (have n2 := keepfroz hb n0 n2; have n3 := keepfroz hb n0 n3; have n0 := keepcell hb n0; have n1 := keepcell hb n1) | (have n0 := keepcell hb newcell0; have n1 := keepcell hb newcell1; have n2 := keepfroz hb newcell0 (newfroz (o := 0)); have n3 := keepfroz hb newcell0 (newfroz (o := 1))) | skip)))
                    all_goals (go_wp2_with fail; go_meet)
                    all_goals first | exact ⟨_, rfl, rfl, rfl, by omega, by simp, newcell0, newcell1, ‹_›⟩ | exact ⟨_, rfl, rfl, rfl, by omega, by simp; exact block_lt_of_cell n0, setA n0, setB n1, ‹_›⟩
                  case rest =>
                    clear s4 kl0 kl1 kz0 kz1 ka0 ka1 hB
                    obtain ⟨gr, rfl, rfl, rfl, zgr, ygr, kr0, kr1, ka0, ka1, kz0, kz1, kl0, kl1, hB⟩ := hcut
                    have qgz : gz < _ := block_lt_of_cell kz0
                    have qgl : gl < _ := block_lt_of_cell kl0
                    by_cases hx : ex = 0
                    · by_cases hy : ez = 0
                      · obtain ⟨e1, e2, e3⟩ := K2.out hx hy
                        subst hx; subst hy; subst e1; subst e2; subst e3
                        go_wp2
                        go_ret
                        exact ⟨rfl, hB⟩
                      · have hyb : (ez != 0) = true := by simpa using hy
                        subst hx
                        go_wp2
                        go_ret
                        exact ⟨rfl, hB⟩
                    · have hxb : (ex != 0) = true := by simpa using hx
                      go_wp2
                      go_ret
                      exact ⟨rfl, hB⟩
          · have hgb : (gc != 0) = true := by simpa using hg
            subst he
            go_wp2
            go_ret
            exact ⟨rfl, hB⟩
        · have heb : (er != 0) = true := by simpa using he
          go_wp2
          go_ret
          exact ⟨rfl, hB⟩

theorem congruenceMeetOrder_walk (r1 m1 r2 m2 r3 m3 : Int) (w : World) (_ : -9223372036854775808 ≤ r1) (_ : r1 ≤ 9223372036854775807) (_ : -9223372036854775808 ≤ m1) (_ : m1 ≤ 9223372036854775807) (_ : -9223372036854775808 ≤ r2) (_ : r2 ≤ 9223372036854775807) (_ : -9223372036854775808 ≤ m2) (_ : m2 ≤ 9223372036854775807) (_ : -9223372036854775808 ≤ r3) (_ : r3 ≤ 9223372036854775807) (_ : -9223372036854775808 ≤ m3) (_ : m3 ≤ 9223372036854775807) :
    Calls Try.prog 7 #[.agg #[.int .i64 r1, .int .i64 m1], .agg #[.int .i64 r2, .int .i64 m2], .agg #[.int .i64 r3, .int .i64 m3]] w fun e w' => e = .returned (.bool true) ∧ Below w.heap.size w w' := by
  obtain ⟨x, l, ok, er, hM, hF⟩ := meet_any r1 m1 r2 m2
  obtain ⟨y, l', ok', er', hM', hF'⟩ := meet_any r2 m2 r1 m1
  obtain ⟨rfl, rfl, rfl, rfl⟩ := meet_comm hF hF'
  obtain ⟨z, lz, rk, gc, hM3, hF3⟩ := meet_any r2 m2 r3 m3
  obtain ⟨X, Lx, okx, ex, hM4, hF4⟩ := meet_any x l r3 m3
  obtain ⟨Z, Lz, okz, ez, hM5, hF5⟩ := meet_any r1 m1 z lz
  exact order_walk r1 m1 r2 m2 r3 m3 x l er z lz gc X Lx ex Z Lz ez ok rk okx okz w hM hM' hM3 hM4 hM5 (fun _ _ a b c d => by subst a; subst b; exact meet_assoc hF hF3 hF4 hF5 c d)

set_option maxRecDepth 100000 in
theorem congruenceMeetOrder_lifted (os : Os) (started : os.Started) (H : Type) (enc : TypeId × Value → H) :
    ReturnsInHanded {} Try.checked os 7 .any (Rows.congruenceMeetOrderSpec.pre6 enc Try.prog Try.f7 Rows.congruenceMeetOrderRow.domain false) (Rows.congruenceMeetOrderSpec.post enc Try.prog Try.f7 false true false false) := by
  refine law_lifted (C := Try.checked) (B := 4) Try.own started (by kernel_rfl) Try.func7
    (ChangeSpec.witness6 (enc := enc) (C := Try.checked) false ⟨#[], #[.agg #[.int .i64 0, .int .i64 0], .agg #[.int .i64 0, .int .i64 0], .agg #[.int .i64 0, .int .i64 0]], []⟩ 8 (by kernel_rfl) (by kernel_rfl) (by kernel_rfl) (by kernel_rfl))
    Try.laidOut (by kernel_rfl) rfl rfl rfl Try.underlying4 (fun ds h => match ds, h with | [_, _, _], _ => rfl) ?_
  intro W base args ds ps hval hA hlt hsz
  rw [Try.params7] at hA hval
  clear hlt hsz
  obtain ⟨v0, vs0, d0, ds0, p0, q0, hargs, rfl, rfl, h0, r0⟩ := trodAll_cons hA
  obtain ⟨v1, vs1, d1, ds1, p1, q1, rfl, rfl, rfl, h1, r1⟩ := trodAll_cons r0
  obtain ⟨v2, vs2, d2, ds2, p2, q2, rfl, rfl, rfl, h2, r2⟩ := trodAll_cons r1
  obtain ⟨rfl, rfl, rfl⟩ := trodAll_nil r2
  obtain rfl : args = #[v0, v1, v2] := by cases args; simp_all
  obtain ⟨e0, f0, y0, z0, m0, rfl, rfl, rfl, hy0, hz0⟩ := Joins.open_agg2 Try.underlying28 (by kernel_rfl) Try.cells28 (hval 0 28 v0 rfl rfl) h0
  obtain ⟨r0x, er0, rfl, wr0⟩ := DataW.trod_int Try.underlying2 hy0
  obtain ⟨m0x, em0, rfl, wm0⟩ := DataW.trod_int Try.underlying2 hz0
  obtain rfl : e0 = .int .i64 r0x := by simpa using er0
  obtain rfl : f0 = .int .i64 m0x := by simpa using em0
  obtain ⟨lr0, gr0⟩ := i64_bd wr0
  obtain ⟨lm0, gm0⟩ := i64_bd wm0
  obtain ⟨e1, f1, y1, z1, m1, rfl, rfl, rfl, hy1, hz1⟩ := Joins.open_agg2 Try.underlying28 (by kernel_rfl) Try.cells28 (hval 1 28 v1 rfl rfl) h1
  obtain ⟨r1x, er1, rfl, wr1⟩ := DataW.trod_int Try.underlying2 hy1
  obtain ⟨m1x, em1, rfl, wm1⟩ := DataW.trod_int Try.underlying2 hz1
  obtain rfl : e1 = .int .i64 r1x := by simpa using er1
  obtain rfl : f1 = .int .i64 m1x := by simpa using em1
  obtain ⟨lr1, gr1⟩ := i64_bd wr1
  obtain ⟨lm1, gm1⟩ := i64_bd wm1
  obtain ⟨e2, f2, y2, z2, m2, rfl, rfl, rfl, hy2, hz2⟩ := Joins.open_agg2 Try.underlying28 (by kernel_rfl) Try.cells28 (hval 2 28 v2 rfl rfl) h2
  obtain ⟨r2x, er2, rfl, wr2⟩ := DataW.trod_int Try.underlying2 hy2
  obtain ⟨m2x, em2, rfl, wm2⟩ := DataW.trod_int Try.underlying2 hz2
  obtain rfl : e2 = .int .i64 r2x := by simpa using er2
  obtain rfl : f2 = .int .i64 m2x := by simpa using em2
  obtain ⟨lr2, gr2⟩ := i64_bd wr2
  obtain ⟨lm2, gm2⟩ := i64_bd wm2
  exact congruenceMeetOrder_walk r0x m0x r1x m1x r2x m2x W lr0 gr0 lm0 gm0 lr1 gr1 lm1 gm1 lr2 gr2 lm2 gm2

theorem congruenceMeetOrder_over : Rows.congruenceMeetOrderRow.holds Try.pinned (OpenSpec.ofChange Rows.congruenceMeetOrderSpec) :=
  OpenClaim.holds_of_wide 7 Try.f7 rfl rfl rfl rfl rfl rfl rfl ⟨rfl, rfl, rfl, rfl, rfl⟩ rfl rfl rfl rfl rfl (by kernel_rfl) Try.func7 (by kernel_rfl)
    (of_decide_eq_true (by kernel_rfl)) (by unfold Func.isWrapper; first | (rw [if_pos (by decide +kernel)]; kernel_rfl) | (rw [if_neg (by decide +kernel)]; exact ⟨rfl, rfl⟩))
    (fun os started H enc _ => congruenceMeetOrder_lifted os started H enc)

theorem congruenceMeetOrder_proved : Rows.CongruenceMeetOrderSaid := congruenceMeetOrder_over
end Go.Proofs.Ytgicdfhhaefibaa
