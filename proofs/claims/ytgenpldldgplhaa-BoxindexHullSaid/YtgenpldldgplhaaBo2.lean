/- Operations opened, with room; what stands before a place. -/
import Derived.Test.YtgenpldldgplhaaBon
namespace Go.Proofs.Ytgenpldldgplhaa
open Go.ChangeShapes Go.WideShapes Go.ChangeAt Go.RowKit Go.ChangeMaps

open Go.Deep Go.WideElems in
set_option maxRecDepth 100000 in
theorem open_opsC {H : Type} {enc : TypeId × Value → H} {W : World} {r : Reach} {b0 : Nat} {v : Value} {d : DataW H} {p : List MemPlace}
    (hv : Value.okWide Try.prog W r b0 22 v) (h : DataW.Trod enc Try.prog W 0 (fun _ => true) true 22 v d p) (hlt : ∀ x ∈ p, x.block < W.heap.size) :
    ∃ (A : Option Addr) (n c : Nat) (L : List Ot), v = .slice A n c ∧ Ots W A n L ∧ (n ≤ c ∧ c ≤ 9223372036854775807) ∧ ∀ x ∈ L, Sds W x.A x.n x.R ∧ x.n ≤ 9223372036854775807 ∧ w64 x.id ∧ w64 x.t ∧ 0 ≤ x.kd ∧ x.kd < 256 := by
  obtain ⟨a0, len0, cap0, rfl⟩ := okWide_slice Try.underlying22 hv
  obtain ⟨fuel, hf⟩ := h
  obtain ⟨A, n, c, L, e, h1, h2, h3, h4⟩ := ops_trod (v := .slice a0 len0 cap0) hf hlt
  exact ⟨A, n, c, L, e, h1, ⟨h2, h3⟩, h4⟩
theorem Ots.take {w : World} {A : Option Addr} {n : Nat} {L : List Ot} (h : Ots w A n L) {j : Nat} (hj : j ≤ n) : Ots w A j (L.take j) := by
  have hl := h.len
  refine ⟨by rw [flat_len Ot.cells 4 (fun _ => rfl), List.length_take]; omega, fun h0 => ?_⟩
  obtain ⟨b, off, e, hb, hc⟩ := h.2 (by omega)
  refine ⟨b, off, e, hb, fun i u hu => hc i u ?_⟩
  have hi := (List.getElem?_eq_some_iff.1 hu).1
  have e2 : L.flatMap Ot.cells = (L.take j).flatMap Ot.cells ++ (L.drop j).flatMap Ot.cells := by rw [← List.flatMap_append, List.take_append_drop]
  rw [e2, List.getElem?_append_left hi]
  exact hu
end Go.Proofs.Ytgenpldldgplhaa
