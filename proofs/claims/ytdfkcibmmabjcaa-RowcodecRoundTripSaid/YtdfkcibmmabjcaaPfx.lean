/- No encoding of a value is a proper prefix of another one. -/
import Derived.Test.YtdfkcibmmabjcaaVal
import Derived.Test.YtdfkcibmmabjcaaHas
namespace Go.Proofs.Ytdfkcibmmabjcaa
open Go.ChangeShapes Go.WideShapes Go.ChangeAt Go.RowKit

theorem esc_cases (x : UInt8) : (x = 0 ∧ esc x = [1, 1]) ∨ (x = 1 ∧ esc x = [1, 2]) ∨ (x ≠ 0 ∧ x ≠ 1 ∧ esc x = [x]) := by
  unfold esc
  by_cases h : x = 0
  · exact .inl ⟨h, by rw [if_pos h]⟩
  · by_cases h1 : x = 1
    · exact .inr (.inl ⟨h1, by rw [if_neg h, if_pos h1]⟩)
    · exact .inr (.inr ⟨h, h1, by rw [if_neg h, if_neg h1]⟩)
theorem esc_pre (x y : UInt8) (A C : List UInt8) (h : esc x ++ A <+: esc y ++ C) : x = y ∧ A <+: C := by
  rcases esc_cases x with ⟨e, f⟩ | ⟨e, f⟩ | ⟨e, e', f⟩ <;> rcases esc_cases y with ⟨g, k⟩ | ⟨g, k⟩ | ⟨g, g', k⟩ <;> rw [f, k] at h <;> simp only [List.cons_append, List.nil_append, List.cons_prefix_cons] at h
  · exact ⟨e.trans g.symm, h.2.2⟩
  · exact absurd h.2.1 (by decide)
  · exact absurd h.1.symm g'
  · exact absurd h.2.1 (by decide)
  · exact ⟨e.trans g.symm, h.2.2⟩
  · exact absurd h.1.symm g'
  · exact absurd h.1 e'
  · exact absurd h.1 e'
  · exact h
theorem esc_ne (x : UInt8) (A C : List UInt8) : ¬ (esc x ++ A <+: [0] ++ C) ∧ ¬ ([0] ++ C <+: esc x ++ A) := by
  rcases esc_cases x with ⟨e, f⟩ | ⟨e, f⟩ | ⟨e, e', f⟩ <;> rw [f] <;> simp only [List.cons_append, List.nil_append, List.cons_prefix_cons] <;> refine ⟨fun h => ?_, fun h => ?_⟩
  · exact absurd h.1 (by decide)
  · exact absurd h.1 (by decide)
  · exact absurd h.1 (by decide)
  · exact absurd h.1 (by decide)
  · exact e h.1
  · exact e h.1.symm
theorem escs_cons (x : UInt8) (l : List UInt8) : escs (x :: l) = esc x ++ escs l := by simp [escs]
theorem escs_pre : ∀ (l m : List UInt8) (A C : List UInt8), escs l ++ ([0] ++ A) <+: escs m ++ ([0] ++ C) → l = m ∧ A <+: C
  | [], [], A, C, h => by simpa [escs] using h
  | x :: l, [], A, C, h => by
    rw [escs_cons, List.append_assoc] at h
    exact absurd h (esc_ne x _ _).1
  | [], y :: m, A, C, h => by
    rw [escs_cons, List.append_assoc] at h
    exact absurd h (esc_ne y _ _).2
  | x :: l, y :: m, A, C, h => by
    rw [escs_cons, escs_cons, List.append_assoc, List.append_assoc] at h
    obtain ⟨e, h2⟩ := esc_pre x y _ _ h
    obtain ⟨e2, h3⟩ := escs_pre l m A C h2
    exact ⟨by rw [e, e2], h3⟩
/-- What follows does not matter. -/
theorem enc_pre (k n k' n' : Int) (s s' A C : List UInt8) (h : encV k n s ++ A <+: encV k' n' s' ++ C) : encV k n s = encV k' n' s' ∧ A <+: C := by
  unfold encV at *
  by_cases h1 : k = 1 <;> by_cases h2 : k' = 1
  · rw [if_pos h1, if_pos h2] at *
    simp only [List.cons_append, List.nil_append, List.cons_prefix_cons, true_and] at h
    have e : num8 (n + 9223372036854775808) = num8 (n' + 9223372036854775808) ∧ A <+: C := by
      obtain ⟨t, ht⟩ := h
      rw [List.append_assoc] at ht
      obtain ⟨p, q⟩ := List.append_inj ht (by rfl)
      exact ⟨p, ⟨t, q⟩⟩
    exact ⟨by rw [e.1], e.2⟩
  · rw [if_pos h1, if_neg h2] at h
    by_cases h3 : k' = 2
    · rw [if_pos h3] at h
      simp only [List.cons_append, List.nil_append, List.cons_prefix_cons] at h
      exact absurd h.1 (by decide)
    · rw [if_neg h3] at h
      simp only [List.cons_append, List.nil_append, List.cons_prefix_cons] at h
      exact absurd h.1 (by decide)
  · rw [if_neg h1, if_pos h2] at h
    by_cases h3 : k = 2
    · rw [if_pos h3] at h
      simp only [List.cons_append, List.nil_append, List.cons_prefix_cons] at h
      exact absurd h.1 (by decide)
    · rw [if_neg h3] at h
      simp only [List.cons_append, List.nil_append, List.cons_prefix_cons] at h
      exact absurd h.1 (by decide)
  · rw [if_neg h1, if_neg h2] at *
    by_cases h3 : k = 2 <;> by_cases h4 : k' = 2
    · rw [if_pos h3, if_pos h4] at *
      simp only [List.cons_append, List.nil_append, List.cons_prefix_cons, true_and, List.append_assoc] at h
      obtain ⟨e, f⟩ := escs_pre s s' A C (by simpa using h)
      exact ⟨by rw [e], f⟩
    · rw [if_pos h3, if_neg h4] at h
      simp only [List.cons_append, List.nil_append, List.cons_prefix_cons] at h
      exact absurd h.1 (by decide)
    · rw [if_neg h3, if_pos h4] at h
      simp only [List.cons_append, List.nil_append, List.cons_prefix_cons] at h
      exact absurd h.1 (by decide)
    · rw [if_neg h3, if_neg h4] at *
      simp only [List.cons_append, List.nil_append, List.cons_prefix_cons, true_and] at h
      exact ⟨rfl, h⟩
theorem enc_free (k n k' n' : Int) (s s' : List UInt8) (h : encV k n s ≠ encV k' n' s') : List.isPrefixOf (encV k n s) (encV k' n' s') = false := by
  rw [Bool.eq_false_iff]
  intro e
  exact h (enc_pre k n k' n' s s' [] [] (by simpa using List.isPrefixOf_iff_prefix.1 e)).1
theorem encV_len (k n : Int) (s : List UInt8) : (encV k n s).length ≤ 2 * s.length + 9 := by
  unfold encV
  split
  · simp [num8_len]
  · split
    · have := escs_len s; simp; omega
    · simp
end Go.Proofs.Ytdfkcibmmabjcaa
