/- The index stands when a block of its caller is written. -/
import Derived.Test.YtgenpldldgplhaaBp3
import Derived.Test.YtgenpldldgplhaaBo4
import Derived.Test.YtgenpldldgplhaaBpy
import Derived.Test.YtgenpldldgplhaaBrp
import Derived.Deep.MidRow
namespace Go.Proofs.Ytgenpldldgplhaa
open Go.ChangeShapes Go.WideShapes Go.ChangeAt Go.RowKit Go.ChangeMaps

theorem At.grownR {w W : World} {A : Option Addr} {n size : Nat} {xs : List Value} {row : Option Nat} (h : At w A n size xs) (hg : w.grownBy W row) (hr : 0 < n → ∀ b off, A = some ⟨b, off, none⟩ → some b ≠ row) : At W A n size xs :=
  ⟨h.1, fun hn => by
    obtain ⟨b, off, e, hb, hc⟩ := h.2 hn
    exact ⟨b, off, e, Nat.lt_of_lt_of_le hb hg.size, fun j u hj => hg.cell (hc j u hj) (hr hn b off e)⟩⟩
theorem IX.grownR {w W : World} {B x M : Nat} {L : List It} {row : Option Nat} (h : IX w B x M L) (hg : w.grownBy W row)
    (hr : ∀ g, row = some g → ∃ cs t, Blk w g t cs ∧ t ≠ 63 ∧ ∀ it ∈ L, 0 < it.n → ∀ b off, it.A = some ⟨b, off, none⟩ → b ≠ g) : IX W B x M L := by
  obtain ⟨⟨bt, bi, g, h1, h2, h3, h4, h5, h6, ⟨st, h7⟩, h8⟩, h9, h10, h11, h12⟩ := h
  have hm : ∀ {k : TypeId} {q : IntKind} {b n s : Nat} {f : Int → Option Value}, MB w k q b n s f → some b ≠ row := fun hb e => by
    obtain ⟨cs, t, hk, -⟩ := hr _ e.symm
    exact hb.ne hk rfl
  have hx : some x ≠ row := fun e => by
    obtain ⟨cs, t, hk, ht, -⟩ := hr _ e.symm
    have := (show w.heap[x]? = some (.cells cs t (0, 0)) from hk).symm.trans h1
    injection this with this
    injection this with _ this
    exact ht this
  refine ⟨⟨bt, bi, g, (hg.block x h1.lt hx).trans h1, h2, h3, h4, h5, h6.kept hg (hm h6), ⟨st, h7.kept hg (hm h7)⟩, fun T hT => ⟨(h8 T hT).1.kept hg (hm (h8 T hT).1), (h8 T hT).2⟩⟩, h9, fun it hi => ⟨(h10 it hi).1.grownR hg (fun hn b off e e2 => ?_), (h10 it hi).2⟩, h11, h12⟩
  obtain ⟨cs, t, hk, ht, hf⟩ := hr b e2.symm
  exact hf it hi hn b off e rfl
theorem KC.grownR {w W W' : World} {row : Option Nat} (h : KC w W) (hg : W.grownBy W' row) (hr : ∀ g, row = some g → w.heap.size ≤ g) : KC w W' :=
  ⟨hg.os.trans h.os, hg.tape.trans h.tape, hg.output.trans h.output, Nat.le_trans h.size hg.size, fun k cs t z e => by
    have hk : k < w.heap.size := (Array.getElem?_eq_some_iff.1 e).1
    rw [hg.block k (Nat.lt_of_lt_of_le hk h.size) (fun e2 => by have := hr k e2.symm; omega)]
    exact h.block k cs t z e⟩
theorem blk_setCells {g : Nat} {T : TypeId} : ∀ (vs : List Value) (o : Nat) (W : World) (cs : Array Value), Blk W g T cs → ∃ cs', Blk (W.setCells g o vs) g T cs' ∧ cs'.size = cs.size ∧ W.grownBy (W.setCells g o vs) (some g)
  | [], o, W, cs, h => ⟨cs, h, rfl, World.grownBy.refl _ _⟩
  | v :: vs, o, W, cs, h => by
    obtain ⟨cs', h1, h2, h3⟩ := blk_setCells vs (o + 1) (W.setCell ⟨g, o, none⟩ v) _ (Joins.block_setCell h v)
    exact ⟨cs', h1, by rw [h2]; simp, (grown_set W g o v).trans h3⟩
theorem there_blk {W : World} {g : Nat} {T : TypeId} {cs : Array Value} (h : Blk W g T cs) {o n : Nat} (ho : o + n ≤ cs.size) : W.there g o n := fun j hj => by
  refine ⟨?_, Joins.unfrozen_of_block h _⟩
  rw [h.cell (o + j), Array.getElem?_eq_getElem (by omega)]
  rfl
/-- A row of the caller's, written as it likes. -/
def Wild (w0 w : World) (A : Option Addr) (n z : Nat) (T : TypeId) : Prop :=
  w0.grownBy w (A.map (·.block)) ∧ (0 < n → ∃ g cs, A = some ⟨g, 0, none⟩ ∧ Blk w g T cs ∧ n * z ≤ cs.size)
theorem Wild.of_own {w : World} {b : Nat} {T : TypeId} {z n c : Nat} {A : Option Addr} {xs : List Value} (h : w.ownsRow b T z (.slice A n c) n xs) : Wild w w A n z T := by
  refine ⟨World.grownBy.refl _ _, fun hn => ?_⟩
  rcases h.2 with ⟨-, h0⟩ | ⟨g, cap, cur, e, hg, hh, hnc, hcap, hsz, -⟩
  · omega
  · injection e with e1 e2 e3
    exact ⟨g, cur, e1, hh, by rw [hsz]; exact Nat.mul_le_mul_right _ hnc⟩
theorem Wild.set {w0 w : World} {g n z : Nat} {T : TypeId} (h : Wild w0 w (some ⟨g, 0, none⟩) n z T) (hn : 0 < n) (o : Nat) (vs : List Value) : Wild w0 (w.setCells g o vs) (some ⟨g, 0, none⟩) n z T := by
  obtain ⟨h1, h2⟩ := h
  obtain ⟨g', cs, e, hb, hs⟩ := h2 hn
  injection e with e
  injection e with e
  subst e
  obtain ⟨cs', q1, q2, q3⟩ := blk_setCells vs o w cs hb
  exact ⟨h1.trans q3, fun _ => ⟨g, cs', rfl, q1, by omega⟩⟩
theorem own_far {w : World} {b : Nat} {T : TypeId} {z n c : Nat} {A : Option Addr} {xs : List Value} (h : w.ownsRow b T z (.slice A n c) n xs) : ∀ g, A.map (·.block) = some g → b ≤ g ∧ ∃ cs, Blk w g T cs := by
  intro g hg
  rcases h.2 with ⟨e, -⟩ | ⟨g', cap, cur, e, hb, hh, -⟩
  · injection e with e1 e2 e3
    rw [e1] at hg
    cases hg
  · injection e with e1 e2 e3
    rw [e1] at hg
    injection hg with hg
    subst hg
    exact ⟨hb, cur, hh⟩
end Go.Proofs.Ytgenpldldgplhaa
