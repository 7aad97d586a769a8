/- The awake's systems. -/
import Derived.Test.YtbmofagaammgmaaDsx
namespace Go.Proofs.Ytbmofagaammgmaa
open Go.ChangeShapes Go.WideShapes Go.ChangeAt Go.RowKit Go.ChangeMaps

def sA : St := addS ⟨[], fun _ => none, 0⟩ 0 1 (-3)
def sB : St := addS sA 1 2 5
def sC : St := addS sB 2 0 (-3)
theorem satB : Sat sB 2 := ⟨2, by decide, by decide +kernel⟩
theorem unsC : Uns sC 2 := by
  unfold Uns
  decide +kernel
theorem lenC {nd : Nat → Nat} (h : Nds sC 3 nd) {i j : Nat} (h1 : j < i) (h2 : i ≤ 3) (h3 : nd i = nd j) : i - j = 3 := by
  have hp : sC.prs = [(0, 1), (1, 2), (2, 0)] := by decide +kernel
  have e := fun k hk => (h.2 k hk).1
  rw [hp] at e
  have e0 := e 0 (by decide)
  have e1 := e 1 (by decide)
  have e2 := e 2 (by decide)
  have e0 : (nd 1 = 0 ∧ nd 0 = 1) ∨ (nd 1 = 1 ∧ nd 0 = 2) ∨ (nd 1 = 2 ∧ nd 0 = 0) := by simpa using e0
  have e1 : (nd 2 = 0 ∧ nd 1 = 1) ∨ (nd 2 = 1 ∧ nd 1 = 2) ∨ (nd 2 = 2 ∧ nd 1 = 0) := by simpa using e1
  have e2 : (nd 3 = 0 ∧ nd 2 = 1) ∨ (nd 3 = 1 ∧ nd 2 = 2) ∨ (nd 3 = 2 ∧ nd 2 = 0) := by simpa using e2
  have hi : i = 1 ∨ i = 2 ∨ i = 3 := by omega
  rcases hi with rfl | rfl | rfl
  · obtain rfl : j = 0 := by omega
    omega
  · have hj : j = 0 ∨ j = 1 := by omega
    rcases hj with rfl | rfl <;> omega
  · have hj : j = 0 ∨ j = 1 ∨ j = 2 := by omega
    rcases hj with rfl | rfl | rfl <;> omega
end Go.Proofs.Ytbmofagaammgmaa
