/- Done; the number of the transaction. -/
import Derived.Test.YtgcjbpiofcggcaaSes
namespace Go.Proofs.Ytgcjbpiofcggcaa
open Go.ChangeShapes Go.WideShapes Go.ChangeAt Go.RowKit Go.ChangeMaps

theorem Done_any (w : World) (B M p num : Nat) (K : List Int) (cur ex : Nat) (h : Ses w B M p num K cur ex) :
    Calls Try.prog 20 #[.pointer (some ⟨p, 0, none⟩)] w fun e w' => e = .returned (.bool (decide (cur = (splitM K).length))) ∧ Below w.heap.size w w' := by
  obtain ⟨A, a, D, d, hA, hD, c0, c1, c2, c3, c4, hc, hx, hn, hm, hl⟩ := h.parts
  clear hA hD h c0 c1 c4
  have c2 := fun d os => cell_regrown c2 d os
  have c3 := fun d os => cell_regrown c3 d os
  generalize (splitM K).length = t at *
  generalize K.length = n at *

  go_enter Try.func20, Try.ntmps20
  go_wp2
  refine wp_region_quiet_below (by kernel_rfl) (by kernel_rfl) ?_
  repeat (go_big_quiet_step (fail))
  refine wpQuiet_nil ?_
  intro _ hw'
  obtain ⟨⟨dq, osq⟩, hw''⟩ := hw'
  subst hw''
  go_wp2
  go_ret
  exact ⟨ret_bool (by rw [Bool.eq_iff_iff]; simp; omega), below_regrown w dq osq⟩
theorem Transaction_any (w : World) (B M p num : Nat) (K : List Int) (cur ex : Nat) (h : Ses w B M p num K cur ex) :
    Calls Try.prog 23 #[.pointer (some ⟨p, 0, none⟩)] w fun e w' => e = .returned (.int .i64 (1 + cur * 8 + num : Nat)) ∧ Below w.heap.size w w' := by
  obtain ⟨A, a, D, d, hA, hD, c0, c1, c2, c3, c4, hc, hx, hn, hm, hl⟩ := h.parts
  clear hA hD h c2 c1 c4
  have c0 := fun d os => cell_regrown c0 d os
  have c3 := fun d os => cell_regrown c3 d os
  generalize (splitM K).length = t at *
  generalize K.length = n at *
  have e1 : IntKind.i64.wrap ((cur : Int) * 8) = ((cur * 8 : Nat) : Int) := by rw [IntWalk.i64_in _ (by omega)]; simp
  have e2 : IntKind.i64.wrap (1 + ((cur * 8 : Nat) : Int)) = ((1 + cur * 8 : Nat) : Int) := by rw [IntWalk.i64_in _ (by omega)]; simp
  have e3 : IntKind.i64.wrap (((1 + cur * 8 : Nat) : Int) + (num : Int)) = ((1 + cur * 8 + num : Nat) : Int) := by rw [IntWalk.i64_in _ (by omega)]; simp
  go_enter Try.func23, Try.ntmps23
  go_wp2
  refine wp_region_quiet_below (by kernel_rfl) (by kernel_rfl) ?_
  repeat (go_big_quiet_step (fail))
  refine wpQuiet_nil ?_
  intro _ hw'
  obtain ⟨⟨dq, osq⟩, hw''⟩ := hw'
  subst hw''
  go_wp2
  go_ret
  exact ⟨ret_int (by omega), below_regrown w dq osq⟩
end Go.Proofs.Ytgcjbpiofcggcaa
