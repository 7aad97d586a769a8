/- The operations. -/
import Derived.Test.YtgenpldldgplhaaSow
namespace Go.Proofs.Ytgenpldldgplhaa
open Go.ChangeShapes Go.WideShapes Go.ChangeAt Go.RowKit Go.ChangeMaps

structure Ot where
  kd : Int
  id : Int
  t : Int
  A : Option Addr
  n : Nat
  c : Nat
  R : List Sd
def Ot.cells (x : Ot) : List Value := [.int .u8 x.kd, .int .i64 x.id, .int .i64 x.t, .slice x.A x.n x.c]
def Ots (w : World) (A : Option Addr) (n : Nat) (L : List Ot) : Prop := At w A n 4 (L.flatMap Ot.cells)
theorem Ots.len {w : World} {A : Option Addr} {n : Nat} {R : List Ot} (h : Ots w A n R) : R.length = n := by
  have h1 := h.1
  rw [flat_len Ot.cells 4 (fun _ => rfl)] at h1
  omega
theorem Ots.below {w w' : World} {A : Option Addr} {n : Nat} {R : List Ot} (h : Ots w A n R) (hb : Below w.heap.size w w') : Ots w' A n R := At.below h hb
theorem Ots.at {w : World} {A : Option Addr} {n : Nat} {R : List Ot} (h : Ots w A n R) (hn : 0 < n) : ∃ b off, A = some ⟨b, off, none⟩ ∧ b < w.heap.size ∧ ∀ (W : World), Below w.heap.size w W → ∀ i (hi : i < R.length),
    W.cell? ⟨b, off + i * 4, none⟩ = some (.int .u8 R[i].kd) ∧ W.cell? ⟨b, off + i * 4 + 1, none⟩ = some (.int .i64 R[i].id) ∧ W.cell? ⟨b, off + i * 4 + 2, none⟩ = some (.int .i64 R[i].t) ∧ W.cell? ⟨b, off + i * 4 + 3, none⟩ = some (.slice R[i].A R[i].n R[i].c) := by
  obtain ⟨b, off, e, hb, hc⟩ := h.2 hn
  refine ⟨b, off, e, hb, fun W hW i hi => ?_⟩
  have g : ∀ j u, j < 4 → (R[i].cells)[j]? = some u → W.cell? ⟨b, off + i * 4 + j, none⟩ = some u := fun j u hj hu => by
    rw [Nat.add_assoc]
    exact keepcell hW (hc _ _ ((flat_get Ot.cells 4 (fun _ => rfl) R i j hi hj).trans hu))
  exact ⟨g 0 _ (by decide) rfl, g 1 _ (by decide) rfl, g 2 _ (by decide) rfl, g 3 _ (by decide) rfl⟩
end Go.Proofs.Ytgenpldldgplhaa
