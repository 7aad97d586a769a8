/- The arguments opened. -/
import Derived.Test.YtgcjbpiofcggcaaSlc
namespace Go.Proofs.Ytgcjbpiofcggcaa
open Go.ChangeShapes Go.WideShapes Go.ChangeAt Go.RowKit Go.ChangeMaps

theorem Try.cells3o : Try.prog.cellsOf 3 = 1 := by kernel_rfl
theorem Try.cells5o : Try.prog.cellsOf 5 = 1 := by kernel_rfl
theorem u8_bd {n : Int} (h : (Lit.int .u8 n).wf = true) : 0 ≤ n ∧ n ≤ 255 := by
  have h1 : IntKind.u8.min = 0 := rfl
  have h2 : IntKind.u8.max = 255 := rfl
  simp only [Lit.wf, Bool.and_eq_true, decide_eq_true_eq, h1, h2] at h
  exact h
theorem open_intsA {H : Type} {enc : TypeId × Value → H} {W : World} {r : Reach} {b0 : Nat} {v : Value} {d : DataW H} {p : List MemPlace}
    (hv : Value.okWide Try.prog W r b0 22 v) (h : DataW.Trod enc Try.prog W 0 (fun _ => true) true 22 v d p) (hlt : ∀ x ∈ p, x.block < W.heap.size) :
    ∃ (A : Option Addr) (n c : Nat) (R : List Int), v = .slice A n c ∧ At W A n 1 (ic .i64 R) ∧ n ≤ 9223372036854775807 ∧ ∀ z ∈ R, -9223372036854775808 ≤ z ∧ z ≤ 9223372036854775807 := by
  obtain ⟨A, n, c, R, h1, h2, h3, h4, h5, h6⟩ := open_intsK Try.underlying22 Try.underlying3 Try.cells3o hv h hlt
  exact ⟨A, n, c, R, h1, h2, by omega, fun z hz => i64_bd (h6 z hz)⟩
theorem open_bytesA {H : Type} {enc : TypeId × Value → H} {W : World} {r : Reach} {b0 : Nat} {v : Value} {d : DataW H} {p : List MemPlace}
    (hv : Value.okWide Try.prog W r b0 32 v) (h : DataW.Trod enc Try.prog W 0 (fun _ => true) true 32 v d p) (hlt : ∀ x ∈ p, x.block < W.heap.size) :
    ∃ (A : Option Addr) (n c : Nat) (R : List Int), v = .slice A n c ∧ At W A n 1 (ic .u8 R) ∧ n ≤ 9223372036854775807 ∧ ∀ z ∈ R, 0 ≤ z ∧ z ≤ 255 := by
  obtain ⟨A, n, c, R, h1, h2, h3, h4, h5, h6⟩ := open_intsK Try.underlying32 Try.underlying5 Try.cells5o hv h hlt
  exact ⟨A, n, c, R, h1, h2, by omega, fun z hz => u8_bd (h6 z hz)⟩
end Go.Proofs.Ytgcjbpiofcggcaa
