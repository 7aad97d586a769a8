/- Random schedules: the model. -/
import Derived.Test.YthageombfifffaaDoorNxt
namespace Go.Proofs.YthageombfifffaaDoor
open Go.ChangeShapes Go.WideShapes Go.ChangeAt Go.RowKit Go.ChangeMaps

def rK (S ck cr st : Int) (op : Bool) : Act × Int × Bool :=
  if nR st 1000 < ck then (⟨2, 0, 0, 0⟩, nS st, op)
  else if nR st 1000 < ck + cr then (if nR (nS st) 6 = 0 then (⟨3, 0, 0, 0⟩, nS (nS st), true) else (⟨3, 0, nR (nS st) 6, nR (nS (nS st)) 65⟩, nS (nS (nS st)), true))
  else if 800 ≤ nR st 1000 ∧ op = true then (⟨4, 0, 0, 0⟩, nS st, false)
  else (⟨1, nR (nS st) S, 0, 0⟩, nS (nS st), op)
def rS (S ck cr seed : Int) : Nat → Int × Bool
  | 0 => (seed, false)
  | m + 1 => (rK S ck cr (rS S ck cr seed m).1 (rS S ck cr seed m).2).2
def rL (S ck cr seed : Int) (m : Nat) : List Act := (List.range m).map fun i => (rK S ck cr (rS S ck cr seed i).1 (rS S ck cr seed i).2).1
theorem rL_len (S ck cr seed : Int) (m : Nat) : (rL S ck cr seed m).length = m := by simp [rL]
theorem rS_succ {S ck cr seed st st' : Int} {op op' : Bool} {a : Act} {m : Nat} (h : rS S ck cr seed m = (st, op)) (hk : rK S ck cr st op = (a, st', op')) : rS S ck cr seed (m + 1) = (st', op') := by
  show (rK S ck cr (rS S ck cr seed m).1 (rS S ck cr seed m).2).2 = _
  rw [h]; simp only [hk]
theorem rL_succ {S ck cr seed st st' : Int} {op op' : Bool} {a : Act} {m : Nat} (h : rS S ck cr seed m = (st, op)) (hk : rK S ck cr st op = (a, st', op')) : ActC (rL S ck cr seed (m + 1)) = ActC (rL S ck cr seed m) ++ a.cells := by
  unfold rL
  rw [List.range_succ, List.map_append, List.map_singleton, ActC_snoc, h]
  simp only [hk]
theorem own_mono {w : World} {base base' : Nat} {e : TypeId} {size : Nat} {v : Value} {n : Nat} {xs : List Value} (h : w.ownsRow base e size v n xs) (hb : base' ≤ base) : w.ownsRow base' e size v n xs :=
  ⟨h.1, h.2.imp id fun ⟨g, cap, cur, h1, h2, h3⟩ => ⟨g, cap, cur, h1, Nat.le_trans hb h2, h3⟩⟩
theorem own_set {w : World} {B e size n : Nat} {v : Value} {xs : List Value} (h : w.ownsRow B e size v n xs) {g i : Nat} {u : Value} (hne : v.ownBlock ≠ some g) : (w.setCell ⟨g, i, none⟩ u).ownsRow B e size v n xs := by
  obtain ⟨h1, h2⟩ := h
  refine ⟨h1, ?_⟩
  rcases h2 with h2 | ⟨g', cap, cur, hv, hg, hh, r⟩
  · exact Or.inl h2
  · subst hv
    exact Or.inr ⟨g', cap, cur, rfl, hg, by rw [Below.heap_setCell _ _ _ _ (fun e => hne (by rw [show g' = g from e]; rfl))]; exact hh, r⟩
/-- In a round: the numbers' state, the action, the list. -/
structure RA (w wr : World) (nb : Nat) (st : Int) (v : Value) (n : Nat) (xs : List Value) (g : Nat) (a : Act) : Prop where
  num : wr.heap[nb]? = some (.cells #[.int .u64 st] 51 (0, 0))
  act : wr.heap[g]? = some (.cells #[.int .i64 a.k, .int .i64 a.s, .int .i64 a.w, .int .i64 a.b] 29 (0, 0))
  own : wr.ownsRow (nb + 1) 29 4 v n xs
  bel : Below w.heap.size w wr
  ne : v.ownBlock ≠ some g
  lt : nb < g
  le : w.heap.size ≤ nb
theorem RA.start {w wr : World} {nb : Nat} {st : Int} {v : Value} {n : Nat} {xs : List Value} (hn : wr.heap[nb]? = some (.cells #[.int .u64 st] 51 (0, 0))) (ho : wr.ownsRow (nb + 1) 29 4 v n xs) (hb : Below w.heap.size w wr) (hl : w.heap.size ≤ nb) :
    RA w (wr.alloc (.cells #[.int .i64 0, .int .i64 0, .int .i64 0, .int .i64 0] 29)) nb st v n xs wr.heap.size ⟨0, 0, 0, 0⟩ := by
  have hlt : nb < wr.heap.size := (Array.getElem?_eq_some_iff.1 hn).1
  exact ⟨by rw [Go.Deep.blk_alloc_lt _ _ _ hlt]; exact hn, Go.Deep.blk_alloc_new _ _, ho.alloc _, hb.alloc hb.size _, fun e => by have := (ho.lt _ e).2; omega, hlt, hl⟩
section
variable {w wr : World} {nb : Nat} {st : Int} {v : Value} {n : Nat} {xs : List Value} {g : Nat} {a : Act}
theorem RA.next (h : RA w wr nb st v n xs g a) (st' : Int) : RA w (wr.setCell ⟨nb, 0, none⟩ (.int .u64 st')) nb st' v n xs g a :=
  ⟨Joins.block_setCell h.num _, by rw [Below.heap_setCell _ _ _ _ (by have := h.lt; show g ≠ nb; omega)]; exact h.act, ownsRow_setCell_below h.own (by show nb < nb + 1; omega) _, h.bel.setCell h.le _, h.ne, h.lt, h.le⟩
theorem RA.set {k s b o : Int} (h : RA w wr nb st v n xs g ⟨k, s, b, o⟩) (j : Nat) (u : Int) (a' : Act)
    (ha : (#[.int .i64 k, .int .i64 s, .int .i64 b, .int .i64 o] : Array Value).setIfInBounds j (.int .i64 u) = #[.int .i64 a'.k, .int .i64 a'.s, .int .i64 a'.w, .int .i64 a'.b]) : RA w (wr.setCell ⟨g, j, none⟩ (.int .i64 u)) nb st v n xs g a' :=
  ⟨by rw [Below.heap_setCell _ _ _ _ (by have := h.lt; show nb ≠ g; omega)]; exact h.num, by rw [Joins.block_setCell h.act, ha], own_set h.own h.ne, h.bel.setCell (by have := h.lt; have := h.le; show w.heap.size ≤ g; omega) _, h.ne, h.lt, h.le⟩
theorem RA.appended (h : RA w wr nb st v n xs g a) {o : Obj} {w3 : World} (hg : (wr.alloc o).grownBy w3 v.ownBlock) : w3.heap[nb]? = some (.cells #[.int .u64 st] 51 (0, 0)) ∧ Below w.heap.size w w3 := by
  have hlt : nb < wr.heap.size := (Array.getElem?_eq_some_iff.1 h.num).1
  have hs := h.bel.size
  refine ⟨?_, (h.bel.alloc hs o).grown hg (by rw [Go.Deep.nblk_alloc]; omega) fun j hj => by have := (h.own.lt j hj).1; have := h.le; omega⟩
  rw [hg.block nb (by rw [Go.Deep.nblk_alloc]; omega) (fun e => by have := (h.own.lt nb e.symm).1; omega), Go.Deep.blk_alloc_lt _ _ _ hlt]
  exact h.num
end
end Go.Proofs.YthageombfifffaaDoor
