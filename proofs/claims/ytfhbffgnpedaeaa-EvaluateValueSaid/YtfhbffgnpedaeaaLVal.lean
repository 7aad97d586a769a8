/- Law EvaluateValue: for every input the call returns true, and its arguments read afterwards as before. -/
import Derived.Test.YtfhbffgnpedaeaaEvl
import Derived.Test.YtfhbffgnpedaeaaEop
namespace Go.Proofs.Ytfhbffgnpedaeaa
open Go.ChangeShapes Go.WideShapes Go.ChangeAt Go.RowKit Go.ChangeMaps

theorem evaluateValue_walk (L : List Va) (R : List V3) (x : Ex) (A0 A : Option Addr) (n0 c0 n c : Nat) (w : World) (h : ExAt w x) (hL : Vas w A0 n0 L) (hR : Vls w A n R) (hn : n ≤ 9223372036854775807) (hok : ∀ v ∈ R, v.ok) : Calls Try.prog 3 #[caseAgg x A0 A n0 c0 n c] w fun e w' => e = .returned (.bool true) ∧ Below w.heap.size w w' := value_law L R x A0 A n0 c0 n c w h hL hR hn hok

set_option maxRecDepth 100000 in
theorem evaluateValue_lifted (os : Os) (started : os.Started) (H : Type) (enc : TypeId × Value → H) :
    ReturnsInHanded {} Try.checked os 3 .any (Rows.evaluateValueSpec.pre6 enc Try.prog Try.f3 Rows.evaluateValueRow.domain false) (Rows.evaluateValueSpec.post enc Try.prog Try.f3 false true false false) := by
  refine law_lifted (C := Try.checked) (B := 4) Try.own started (by kernel_rfl) Try.func3
    (ChangeSpec.witness6 (enc := enc) (C := Try.checked) false ⟨#[], #[.agg #[.int .i64 0, .string ⟨#[]⟩, .string ⟨#[]⟩, .int .i64 0, .int .i64 0, .int .i64 0, .string ⟨#[]⟩, .slice none 0 0, .slice none 0 0, .slice none 0 0]], []⟩ 8 (by kernel_rfl) (by kernel_rfl) (by kernel_rfl) (by kernel_rfl))
    Try.laidOut (by kernel_rfl) rfl rfl rfl Try.underlying4 (fun ds h => match ds, h with | [_], _ => rfl) ?_
  intro W base args ds ps hval hA hlt hsz
  rw [Try.params3] at hA hval hsz
  obtain ⟨v0, vs0, d0, ds0, p0, q0, hargs, rfl, rfl, h0, r0⟩ := trodAll_cons hA
  obtain ⟨rfl, rfl, rfl⟩ := trodAll_nil r0
  obtain rfl : args = #[v0] := by cases args; simp_all
  obtain ⟨L0, R0, x0, A0, B0, n0, c0, m0, e0, rfl, k0, kL0, kR0, kn0, ko0, -, -⟩ := open_case (hval 0 31 v0 rfl rfl) h0 (fun x hx => hlt x (by simp [hx])) hsz (j := 0) rfl rfl
  exact evaluateValue_walk L0 R0 x0 A0 B0 n0 c0 m0 e0 W k0 kL0 kR0 kn0 ko0

theorem evaluateValue_over : Rows.evaluateValueRow.holds Try.pinned (OpenSpec.ofChange Rows.evaluateValueSpec) :=
  OpenClaim.holds_of_wide 3 Try.f3 rfl rfl rfl rfl rfl rfl rfl ⟨rfl, rfl, rfl, rfl, rfl⟩ rfl rfl rfl rfl rfl (by kernel_rfl) Try.func3 (by kernel_rfl)
    (of_decide_eq_true (by kernel_rfl)) (by unfold Func.isWrapper; first | (rw [if_pos (by decide +kernel)]; kernel_rfl) | (rw [if_neg (by decide +kernel)]; exact ⟨rfl, rfl⟩))
    (fun os started H enc _ => evaluateValue_lifted os started H enc)

theorem evaluateValue_proved : Rows.EvaluateValueSaid := evaluateValue_over
end Go.Proofs.Ytfhbffgnpedaeaa
