/- The function awake of the laws of this layer returns true. -/
import Derived.Test.YthhpilkhcomhbaaDoorDnw
namespace Go.Proofs.YthhpilkhcomhbaaDoor
open Go.ChangeShapes Go.WideShapes Go.ChangeAt Go.RowKit Go.ChangeMaps

theorem Dk.fresh {w : World} {p q g : Nat} {s : St} (h : Dk w p q s) (hg : w.heap.size ≤ g) : ¬ PQ p q g := fun e => by
  have h1 := h.1.lt
  have h2 := h.2.1.lt
  rcases e with e | e <;> omega
end Go.Proofs.YthhpilkhcomhbaaDoor
