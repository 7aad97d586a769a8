/- Same lists, equal sets: the answers without a decision. -/
import Derived.Test.YtnoddkbpdfimmaaIvv
namespace Go.Proofs.Ytnoddkbpdfimmaa
open Go.ChangeShapes Go.WideShapes Go.ChangeAt Go.RowKit Go.ChangeMaps

theorem RSame_eq (A B : Option Addr) (n m c c2 : Nat) (R T : List Iv) (w : World) (h : Ivs w A n R) (h2 : Ivs w B m T) (hn : n ≤ 100000) (e : R = T) : Calls Try.prog 13 #[.slice A n c, .slice B m c2] w fun e w' => e = .returned (.bool true) ∧ Below w.heap.size w w' := by
  have h1 := RSame_any A B n m c c2 R T w h h2 hn
  rw [show decide (R = T) = true by simpa using e] at h1
  exact h1
theorem Valid_nrm (A : Option Addr) (n c : Nat) (R : List Iv) (w : World) (h : Ivs w A n R) (hn : n ≤ 100000) (hok : ∀ x ∈ R, x.ok) (e : Nrm R) : Calls Try.prog 18 #[.slice A n c] w fun e w' => e = .returned (.bool true) ∧ Below w.heap.size w w' := by
  have h1 := Valid_any A n c R w h hn hok
  rw [show decide (Nrm R) = true by simpa using e] at h1
  exact h1
end Go.Proofs.Ytnoddkbpdfimmaa
