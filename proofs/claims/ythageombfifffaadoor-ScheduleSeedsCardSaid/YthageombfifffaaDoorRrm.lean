/- The reference of random schedules: in a round. -/
import Derived.Test.YthageombfifffaaDoorRnm
namespace Go.Proofs.YthageombfifffaaDoor
open Go.ChangeShapes Go.WideShapes Go.ChangeAt Go.RowKit Go.ChangeMaps

structure RB (w wr : World) (v : Value) (n : Nat) (xs : List Value) (g : Nat) (a : Act) : Prop where
  act : wr.heap[g]? = some (.cells #[.int .i64 a.k, .int .i64 a.s, .int .i64 a.w, .int .i64 a.b] 29 (0, 0))
  own : wr.ownsRow w.heap.size 29 4 v n xs
  bel : Below w.heap.size w wr
  ne : v.ownBlock ≠ some g
  le : w.heap.size ≤ g
theorem RB.start {w wr : World} {v : Value} {n : Nat} {xs : List Value} (ho : wr.ownsRow w.heap.size 29 4 v n xs) (hb : Below w.heap.size w wr) :
    RB w (wr.alloc (.cells #[.int .i64 0, .int .i64 0, .int .i64 0, .int .i64 0] 29)) v n xs wr.heap.size ⟨0, 0, 0, 0⟩ :=
  ⟨Go.Deep.blk_alloc_new _ _, ho.alloc _, hb.alloc hb.size _, fun e => by have := (ho.lt _ e).2; omega, hb.size⟩
section
variable {w wr : World} {v : Value} {n : Nat} {xs : List Value} {g : Nat} {a : Act}
theorem RB.set {k s b o : Int} (h : RB w wr v n xs g ⟨k, s, b, o⟩) (j : Nat) (u : Int) (a' : Act)
    (ha : (#[.int .i64 k, .int .i64 s, .int .i64 b, .int .i64 o] : Array Value).setIfInBounds j (.int .i64 u) = #[.int .i64 a'.k, .int .i64 a'.s, .int .i64 a'.w, .int .i64 a'.b]) : RB w (wr.setCell ⟨g, j, none⟩ (.int .i64 u)) v n xs g a' :=
  ⟨by rw [Joins.block_setCell h.act, ha], own_set h.own h.ne, h.bel.setCell (by have := h.le; show w.heap.size ≤ g; omega) _, h.ne, h.le⟩
theorem RB.appended (h : RB w wr v n xs g a) {o : Obj} {w3 : World} (hg : (wr.alloc o).grownBy w3 v.ownBlock) : Below w.heap.size w w3 :=
  (h.bel.alloc h.bel.size o).grown hg (by have := h.bel.size; rw [Go.Deep.nblk_alloc]; omega) fun j hj => (h.own.lt j hj).1
end
end Go.Proofs.YthageombfifffaaDoor
