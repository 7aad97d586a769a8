/- Patterns put together. -/
import Derived.Test.YtfhbffgnpedaeaaElm
namespace Go.Proofs.Ytfhbffgnpedaeaa
open Go.ChangeShapes Go.WideShapes Go.ChangeAt Go.RowKit Go.ChangeMaps

theorem like_app (B : List UInt8) : ∀ (F T : List UInt8), likeM (F ++ B) T = true ↔ ∃ i, i ≤ T.length ∧ likeM F (T.take i) = true ∧ likeM B (T.drop i) = true
  | [], T => by
    constructor
    · intro h
      exact ⟨0, Nat.zero_le _, by simp [likeM], by simpa using h⟩
    · rintro ⟨i, hi, h1, h2⟩
      have h3 : T.take i = [] := by simpa [likeM] using h1
      have h4 : T.drop i = T := by
        rcases List.take_eq_nil_iff.1 h3 with h | h
        · rw [h]; rfl
        · rw [h]; simp
      rw [h4] at h2
      simpa using h2
  | c :: F, T => by
    by_cases hc : c = 37
    · subst hc
      show likeM (37 :: (F ++ B)) T = true ↔ _
      simp only [likeM, if_true]
      rw [anyTail_iff]
      constructor
      · rintro ⟨k, hk, h⟩
        obtain ⟨i, hi, h1, h2⟩ := (like_app B F (T.drop k)).1 h
        rw [List.length_drop] at hi
        refine ⟨k + i, by omega, (anyTail_iff _ _).2 ⟨k, by rw [List.length_take]; omega, ?_⟩, by rw [List.drop_drop] at h2; exact h2⟩
        rw [List.drop_take, show k + i - k = i by omega]
        exact h1
      · rintro ⟨j, hj, h1, h2⟩
        obtain ⟨k, hk, h3⟩ := (anyTail_iff _ _).1 h1
        rw [List.length_take] at hk
        refine ⟨k, by omega, (like_app B F (T.drop k)).2 ⟨j - k, by rw [List.length_drop]; omega, by rw [List.drop_take] at h3; exact h3, ?_⟩⟩
        rw [List.drop_drop, show k + (j - k) = j by omega]
        exact h2
    · cases T with
      | nil =>
        show likeM (c :: (F ++ B)) [] = true ↔ _
        simp only [likeM, if_neg hc]
        constructor
        · intro h; cases h
        · rintro ⟨i, hi, h1, h2⟩
          simp only [List.take_nil, likeM, if_neg hc] at h1
          cases h1
      | cons x ts =>
        show likeM (c :: (F ++ B)) (x :: ts) = true ↔ _
        simp only [likeM, if_neg hc]
        rw [Bool.and_eq_true, like_app B F ts]
        constructor
        · rintro ⟨h0, i, hi, h1, h2⟩
          refine ⟨i + 1, by simp; omega, ?_, by simpa using h2⟩
          simp only [List.take_succ_cons, likeM, if_neg hc]
          rw [h0, h1]; rfl
        · rintro ⟨j, hj, h1, h2⟩
          cases j with
          | zero => simp only [List.take_zero, likeM, if_neg hc] at h1; cases h1
          | succ i =>
            simp only [List.take_succ_cons, likeM, if_neg hc, Bool.and_eq_true] at h1
            exact ⟨h1.1, i, by simpa using hj, h1.2, by simpa using h2⟩
theorem like_parts (F B T : List UInt8) : likeM (F ++ B) T = (List.range (T.length + 1)).any fun k => likeM F (T.take k) && likeM B (T.drop k) := by
  rw [Bool.eq_iff_iff, like_app, List.any_eq_true]
  constructor
  · rintro ⟨i, hi, h1, h2⟩
    exact ⟨i, List.mem_range.2 (by omega), by rw [h1, h2]; rfl⟩
  · rintro ⟨i, hi, h⟩
    rw [Bool.and_eq_true] at h
    exact ⟨i, by have := List.mem_range.1 hi; omega, h.1, h.2⟩
theorem range_any (p : Nat → Bool) (n : Nat) : (List.range (n + 1)).any p = ((List.range n).any p || p n) := by
  rw [List.range_succ, List.any_append]; simp
end Go.Proofs.Ytfhbffgnpedaeaa
