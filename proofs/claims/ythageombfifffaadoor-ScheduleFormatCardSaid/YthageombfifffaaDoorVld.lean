/- Valid actions. -/
import Derived.Test.YthageombfifffaaDoorAct
namespace Go.Proofs.YthageombfifffaaDoor
open Go.ChangeShapes Go.WideShapes Go.ChangeAt Go.RowKit Go.ChangeMaps

def vA (a : Act) (S : Int) : Bool :=
  if a.k = 1 then decide (0 ≤ a.s) && decide (a.s < S) && decide (a.w = 0) && decide (a.b = 0)
  else if a.k = 2 ∨ a.k = 4 then decide (a.s = 0) && decide (a.w = 0) && decide (a.b = 0)
  else if a.k = 3 then decide (a.s = 0) && ((decide (a.w = 0) && decide (a.b = 0)) || (decide (1 ≤ a.w) && decide (a.w ≤ 1000000) && decide (0 ≤ a.b) && decide (a.b ≤ 64)))
  else false
set_option maxHeartbeats 4000000 in
theorem valid_any (k s v b S : Int) (w : World) : Calls Tryd.prog 25 #[.agg #[.int .i64 k, .int .i64 s, .int .i64 v, .int .i64 b], .int .i64 S] w fun e w' => e = .returned (.bool (vA ⟨k, s, v, b⟩ S)) ∧ Below w.heap.size w w' := by
  by_cases h1 : k = 1
  · have H := Lib.hid (show vA ⟨k, s, v, b⟩ S = (decide (0 ≤ s) && decide (s < S) && decide (v = 0) && decide (b = 0)) by unfold vA; rw [if_pos h1])
    subst h1
    go_enter Tryd.func25, Tryd.ntmps25
    go_wp2
    all_goals
      go_ret
      refine ⟨ret_bool ?_, (Below.refl _ w).alloc (Nat.le_refl _) _⟩
      first
      | (rw [H.out]; done)
      | (rw [H.out]; simp [*]; done)
      | (rw [H.out]; simp [*]; rfl)
      | (rw [H.out]; simp [*]; omega)
      | (simp [vA, *]; done)
      | (simp [vA, *]; rfl)
      | (simp [vA, *]; omega)
  have b1 : (k == 1) = false := by simpa using h1
  by_cases h2 : k = 2
  · have H := Lib.hid (show vA ⟨k, s, v, b⟩ S = (decide (s = 0) && decide (v = 0) && decide (b = 0)) by unfold vA; rw [if_neg h1, if_pos (.inl h2)])
    subst h2
    go_enter Tryd.func25, Tryd.ntmps25
    go_wp2
    all_goals
      go_ret
      refine ⟨ret_bool ?_, (Below.refl _ w).alloc (Nat.le_refl _) _⟩
      first
      | (rw [H.out]; done)
      | (rw [H.out]; simp [*]; done)
      | (rw [H.out]; simp [*]; rfl)
      | (rw [H.out]; simp [*]; omega)
      | (simp [vA, *]; done)
      | (simp [vA, *]; rfl)
      | (simp [vA, *]; omega)
  have b2 : (k == 2) = false := by simpa using h2
  by_cases h4 : k = 4
  · have H := Lib.hid (show vA ⟨k, s, v, b⟩ S = (decide (s = 0) && decide (v = 0) && decide (b = 0)) by unfold vA; rw [if_neg h1, if_pos (.inr h4)])
    subst h4
    go_enter Tryd.func25, Tryd.ntmps25
    go_wp2
    all_goals
      go_ret
      refine ⟨ret_bool ?_, (Below.refl _ w).alloc (Nat.le_refl _) _⟩
      first
      | (rw [H.out]; done)
      | (rw [H.out]; simp [*]; done)
      | (rw [H.out]; simp [*]; rfl)
      | (rw [H.out]; simp [*]; omega)
      | (simp [vA, *]; done)
      | (simp [vA, *]; rfl)
      | (simp [vA, *]; omega)
  have b4 : (k == 4) = false := by simpa using h4
  by_cases h3 : k = 3
  · have H := Lib.hid (show vA ⟨k, s, v, b⟩ S = (decide (s = 0) && ((decide (v = 0) && decide (b = 0)) || (decide (1 ≤ v) && decide (v ≤ 1000000) && decide (0 ≤ b) && decide (b ≤ 64)))) by unfold vA; rw [if_neg h1, if_neg (fun p => p.elim h2 h4), if_pos h3])
    subst h3
    go_enter Tryd.func25, Tryd.ntmps25
    go_wp2
    all_goals
      go_ret
      refine ⟨ret_bool ?_, (Below.refl _ w).alloc (Nat.le_refl _) _⟩
      first
      | (rw [H.out]; done)
      | (rw [H.out]; simp [*]; done)
      | (rw [H.out]; simp [*]; rfl)
      | (rw [H.out]; simp [*]; omega)
      | (simp [vA, *]; done)
      | (simp [vA, *]; rfl)
      | (simp [vA, *]; omega)
  have b3 : (k == 3) = false := by simpa using h3
  have H := Lib.hid (show vA ⟨k, s, v, b⟩ S = false by unfold vA; rw [if_neg h1, if_neg (fun p => p.elim h2 h4), if_neg h3])
  clear h1 h2 h3 h4
  go_enter Tryd.func25, Tryd.ntmps25
  go_wp2
  all_goals
    go_ret
    refine ⟨ret_bool ?_, (Below.refl _ w).alloc (Nat.le_refl _) _⟩
    first
    | (rw [H.out]; done)
    | (rw [H.out]; simp [*]; done)
    | (rw [H.out]; simp [*]; rfl)
    | (rw [H.out]; simp [*]; omega)
    | (simp [vA, *]; done)
    | (simp [vA, *]; rfl)
    | (simp [vA, *]; omega)
set_option maxHeartbeats 4000000 in
theorem Right_any (k s v b S : Int) (w : World) : Calls Tryd.prog 28 #[.agg #[.int .i64 k, .int .i64 s, .int .i64 v, .int .i64 b], .int .i64 S] w fun e w' => e = .returned (.bool (vA ⟨k, s, v, b⟩ S)) ∧ Below w.heap.size w w' := by
  by_cases h1 : k = 1
  · have H := Lib.hid (show vA ⟨k, s, v, b⟩ S = (decide (0 ≤ s) && decide (s < S) && decide (v = 0) && decide (b = 0)) by unfold vA; rw [if_pos h1])
    subst h1
    go_enter Tryd.func28, Tryd.ntmps28
    go_wp2
    all_goals
      go_ret
      refine ⟨ret_bool ?_, (Below.refl _ w).alloc (Nat.le_refl _) _⟩
      first
      | (rw [H.out]; done)
      | (rw [H.out]; simp [*]; done)
      | (rw [H.out]; simp [*]; rfl)
      | (rw [H.out]; simp [*]; omega)
      | (simp [vA, *]; done)
      | (simp [vA, *]; rfl)
      | (simp [vA, *]; omega)
  have b1 : (k == 1) = false := by simpa using h1
  by_cases h2 : k = 2
  · have H := Lib.hid (show vA ⟨k, s, v, b⟩ S = (decide (s = 0) && decide (v = 0) && decide (b = 0)) by unfold vA; rw [if_neg h1, if_pos (.inl h2)])
    subst h2
    go_enter Tryd.func28, Tryd.ntmps28
    go_wp2
    all_goals
      go_ret
      refine ⟨ret_bool ?_, (Below.refl _ w).alloc (Nat.le_refl _) _⟩
      first
      | (rw [H.out]; done)
      | (rw [H.out]; simp [*]; done)
      | (rw [H.out]; simp [*]; rfl)
      | (rw [H.out]; simp [*]; omega)
      | (simp [vA, *]; done)
      | (simp [vA, *]; rfl)
      | (simp [vA, *]; omega)
  have b2 : (k == 2) = false := by simpa using h2
  by_cases h4 : k = 4
  · have H := Lib.hid (show vA ⟨k, s, v, b⟩ S = (decide (s = 0) && decide (v = 0) && decide (b = 0)) by unfold vA; rw [if_neg h1, if_pos (.inr h4)])
    subst h4
    go_enter Tryd.func28, Tryd.ntmps28
    go_wp2
    all_goals
      go_ret
      refine ⟨ret_bool ?_, (Below.refl _ w).alloc (Nat.le_refl _) _⟩
      first
      | (rw [H.out]; done)
      | (rw [H.out]; simp [*]; done)
      | (rw [H.out]; simp [*]; rfl)
      | (rw [H.out]; simp [*]; omega)
      | (simp [vA, *]; done)
      | (simp [vA, *]; rfl)
      | (simp [vA, *]; omega)
  have b4 : (k == 4) = false := by simpa using h4
  by_cases h3 : k = 3
  · have H := Lib.hid (show vA ⟨k, s, v, b⟩ S = (decide (s = 0) && ((decide (v = 0) && decide (b = 0)) || (decide (1 ≤ v) && decide (v ≤ 1000000) && decide (0 ≤ b) && decide (b ≤ 64)))) by unfold vA; rw [if_neg h1, if_neg (fun p => p.elim h2 h4), if_pos h3])
    subst h3
    go_enter Tryd.func28, Tryd.ntmps28
    go_wp2
    all_goals
      go_ret
      refine ⟨ret_bool ?_, (Below.refl _ w).alloc (Nat.le_refl _) _⟩
      first
      | (rw [H.out]; done)
      | (rw [H.out]; simp [*]; done)
      | (rw [H.out]; simp [*]; rfl)
      | (rw [H.out]; simp [*]; omega)
      | (simp [vA, *]; done)
      | (simp [vA, *]; rfl)
      | (simp [vA, *]; omega)
  have b3 : (k == 3) = false := by simpa using h3
  have H := Lib.hid (show vA ⟨k, s, v, b⟩ S = false by unfold vA; rw [if_neg h1, if_neg (fun p => p.elim h2 h4), if_neg h3])
  clear h1 h2 h3 h4
  go_enter Tryd.func28, Tryd.ntmps28
  go_wp2
  all_goals
    go_ret
    refine ⟨ret_bool ?_, (Below.refl _ w).alloc (Nat.le_refl _) _⟩
    first
    | (rw [H.out]; done)
    | (rw [H.out]; simp [*]; done)
    | (rw [H.out]; simp [*]; rfl)
    | (rw [H.out]; simp [*]; omega)
    | (simp [vA, *]; done)
    | (simp [vA, *]; rfl)
    | (simp [vA, *]; omega)
end Go.Proofs.YthageombfifffaaDoor
