/- What a case that fits says: its expression is small and may be valued. -/
import Derived.Test.YtfhbffgnpedaeaaEcs
namespace Go.Proofs.Ytfhbffgnpedaeaa
open Go.ChangeShapes Go.WideShapes Go.ChangeAt Go.RowKit Go.ChangeMaps

theorem isC_ne {s t : Int} (h : isC s t = true) (ht : t ≠ -1) : s ≠ -1 := by
  rcases (isC_iff s t).1 h with h | h <;> omega
theorem ty_args (L : List Va) (x : Ex) (h : tyM L x ≠ -1) : x.args.length ≤ 2 ∧ ∀ y ∈ x.args, tyM L y ≠ -1 := by
  rw [tyM_eq, tyL_map] at h
  unfold tyC at h
  by_cases h1 : x.op = 1
  · rw [if_pos h1] at h
    by_cases h2 : 0 < x.args.length
    · rw [if_pos h2] at h; exact absurd rfl h
    · have := List.eq_nil_of_length_eq_zero (show x.args.length = 0 by omega)
      rw [this]; exact ⟨by simp, fun y hy => by cases hy⟩
  rw [if_neg h1] at h
  by_cases h2 : x.op = 2
  · rw [if_pos h2] at h
    unfold colT at h
    by_cases h2 : 0 < x.args.length
    · rw [if_pos h2] at h; exact absurd rfl h
    · have := List.eq_nil_of_length_eq_zero (show x.args.length = 0 by omega)
      rw [this]; exact ⟨by simp, fun y hy => by cases hy⟩
  rw [if_neg h2] at h
  by_cases h3 : x.op = 3 ∨ x.op = 9 ∨ x.op = 17 ∨ x.op = 20
  · rw [if_pos h3] at h
    match hx : x.args, h with
    | [], h => exact absurd rfl h
    | _ :: _ :: _, h => exact absurd rfl h
    | [a], h =>
      refine ⟨by simp, fun y hy => ?_⟩
      rw [List.mem_singleton] at hy
      subst hy
      simp only [List.map_cons, List.map_nil, unT] at h
      split at h
      · rename_i g
        rcases g with ⟨-, g⟩ | ⟨-, g⟩ <;> exact isC_ne g (by decide)
      · split at h
        · rename_i g
          rcases g with ⟨-, g⟩ | ⟨-, g⟩
          · rcases Bool.or_eq_true_iff.1 g with g | g <;> exact isC_ne g (by decide)
          · exact isC_ne g (by decide)
        · exact absurd rfl h
  rw [if_neg h3] at h
  match hx : x.args, h with
  | [], h => exact absurd rfl h
  | [_], h => exact absurd rfl h
  | _ :: _ :: _ :: _, h => exact absurd rfl h
  | [a, b], h =>
    have key : tyM L a ≠ -1 ∧ tyM L b ≠ -1 := by
      simp only [List.map_cons, List.map_nil, biT] at h
      split at h
      · split at h
        · rename_i g
          simp only [Bool.and_eq_true] at g
          exact ⟨isC_ne g.1 (by decide), isC_ne g.2.1 (by decide)⟩
        · exact absurd rfl h
      · split at h
        · split at h
          · rename_i g
            simp only [Bool.or_eq_true, Bool.and_eq_true] at g
            rcases g with g | g <;> exact ⟨isC_ne g.1 (by decide), isC_ne g.2 (by decide)⟩
          · exact absurd rfl h
        · split at h
          · split at h
            · rename_i g
              simp only [Bool.and_eq_true, decide_eq_true_eq] at g
              exact ⟨isC_ne g.1 (by decide), by omega⟩
            · exact absurd rfl h
          · split at h
            · split at h
              · rename_i g
                simp only [Bool.and_eq_true] at g
                exact ⟨isC_ne g.1 (by decide), isC_ne g.2 (by decide)⟩
              · exact absurd rfl h
            · exact absurd rfl h
    refine ⟨by simp, fun y hy => ?_⟩
    simp only [List.mem_cons, List.not_mem_nil, or_false] at hy
    rcases hy with rfl | rfl
    · exact key.1
    · exact key.2
theorem ty_sm (L : List Va) (x : Ex) : tyM L x ≠ -1 → ExSm x := by
  refine Ex.ind (p := fun x => tyM L x ≠ -1 → ExSm x) (fun x ih h => ?_) x
  obtain ⟨h1, h2⟩ := ty_args L x h
  exact .mk x (by omega) fun y hy => ih y hy (h2 y hy)
theorem fit_sm (L : List Va) (k : Int) (x : Ex) (h : fitM L k x = true) (hk : k ≠ -1) : ExSm x := by
  unfold fitM at h
  simp only [Bool.and_eq_true] at h
  exact ty_sm L x (isC_ne h.2.2.1 hk)
theorem fit_vok (L : List Va) (R : List V3) (k : Int) (x : Ex) (h : fitM L k x = true) (hk : k = 1 ∨ k = 2) (hR : rwM L R = true) : VOk R x := by
  unfold fitM at h
  simp only [Bool.and_eq_true] at h
  refine ty_vok L R x ?_ (.inr ?_)
  · rcases (isC_iff _ _).1 h.2.2.1 with g | g <;> omega
  · by_cases g : L.length = R.length
    · exact g.symm
    · rw [rw_len L R g] at hR; cases hR
end Go.Proofs.Ytfhbffgnpedaeaa
