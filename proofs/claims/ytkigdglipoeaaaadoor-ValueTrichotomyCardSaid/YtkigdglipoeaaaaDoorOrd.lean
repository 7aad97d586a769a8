/- The order of values. -/
import Derived.Test.YtkigdglipoeaaaaDoorEqv
namespace Go.Proofs.YtkigdglipoeaaaaDoor
open Go.ChangeShapes Go.WideShapes Go.ChangeAt Go.RowKit Go.ChangeMaps

theorem icmp_neg (a b : Int) : icmp b a = - icmp a b := by unfold icmp; split <;> split <;> omega
theorem lex_neg {α : Type} (f : α → α → Int) (hf : ∀ a b, f b a = - f a b) : ∀ l m, lex f m l = - lex f l m
  | [], [] => rfl
  | [], _ :: _ => rfl
  | _ :: _, [] => rfl
  | a :: l, b :: m => by
    have ih := lex_neg f hf l m
    have h := hf a b
    unfold lex
    rw [ih]
    by_cases h0 : f a b = 0
    · rw [if_pos h0, if_pos (by omega)]
    · rw [if_neg h0, if_neg (by omega), h]
theorem tcmp_neg (l m : List UInt8) : tcmp m l = - tcmp l m := lex_neg ucmp (fun a b => icmp_neg a.toNat b.toNat) l m
theorem vcmp_neg (x y : V3) : vcmp y x = - vcmp x y := by
  unfold vcmp
  by_cases h : x.k = y.k
  · by_cases g : x.n = y.n
    · rw [if_neg (by simpa using h.symm), if_neg (by simpa using g.symm), if_neg (by simpa using h), if_neg (by simpa using g)]
      exact tcmp_neg _ _
    · rw [if_neg (by simpa using h.symm), if_pos (fun e => g e.symm), if_neg (by simpa using h), if_pos g]
      exact icmp_neg _ _
  · rw [if_pos (fun e => h e.symm), if_pos h]
    exact icmp_neg _ _
theorem vcmp_bd (x y : V3) : -1 ≤ vcmp x y ∧ vcmp x y ≤ 1 := by
  unfold vcmp
  split
  · exact icmp_bd _ _
  · split
    · exact icmp_bd _ _
    · exact lex_bd ucmp (fun a b => icmp_bd _ _) _ _
/-- At most, and then less or both alike. -/
def Tri (x y z : Int) : Prop := x ≤ 0 → y ≤ 0 → z ≤ 0 ∧ (z < 0 ∨ (x = 0 ∧ y = 0))
theorem icmp_tri (a b c : Int) : Tri (icmp a b) (icmp b c) (icmp a c) := by
  unfold Tri icmp; intro h1 h2
  split at h1
  · split at h2
    · rw [if_pos (by omega)]; omega
    · split at h2
      · omega
      · rw [if_pos (by omega)]; omega
  · split at h1
    · omega
    · obtain rfl : a = b := by omega
      split at h2
      · rw [if_pos (by omega)]; omega
      · split at h2
        · omega
        · rw [if_neg (by omega), if_neg (by omega)]; simp
theorem lex_tri {α : Type} (f : α → α → Int) (hb : ∀ a b, -1 ≤ f a b ∧ f a b ≤ 1) (h0 : ∀ a b, f a b = 0 ↔ a = b) (hf : ∀ a b c, Tri (f a b) (f b c) (f a c)) : ∀ l m n, Tri (lex f l m) (lex f m n) (lex f l n)
  | [], [], [] => by simp [lex, Tri]
  | [], [], _ :: _ => by simp [lex, Tri]
  | [], _ :: _, [] => by simp [lex, Tri]
  | [], _ :: _, _ :: _ => by simp [lex, Tri]
  | _ :: _, [], _ => by simp [lex, Tri]
  | _ :: _, _ :: _, [] => by simp [lex, Tri]
  | a :: l, b :: m, c :: n => by
    have ih := lex_tri f hb h0 hf l m n
    have h := hf a b c
    unfold lex
    by_cases e1 : f a b = 0
    · obtain rfl := (h0 a b).1 e1
      rw [if_pos e1]
      by_cases e2 : f a c = 0
      · rw [if_pos e2, if_pos e2]; exact ih
      · rw [if_neg e2, if_neg e2]
        intro _ h2
        exact ⟨h2, .inl (by omega)⟩
    · rw [if_neg e1]
      by_cases e2 : f b c = 0
      · obtain rfl := (h0 b c).1 e2
        rw [if_pos e2, if_neg e1]
        intro h1 _
        exact ⟨h1, .inl (by omega)⟩
      · rw [if_neg e2]
        intro h1 h2
        have := h h1 h2
        rw [if_neg (by omega)]
        exact ⟨this.1, .inl (by omega)⟩
theorem tcmp_tri (l m n : List UInt8) : Tri (tcmp l m) (tcmp m n) (tcmp l n) := lex_tri ucmp (fun a b => icmp_bd _ _) ucmp_zero (fun a b c => icmp_tri _ _ _) l m n
theorem vcmp_tri (x y z : V3) : Tri (vcmp x y) (vcmp y z) (vcmp x z) := by
  have h1 := icmp_tri x.k y.k z.k
  have h2 := icmp_tri x.n y.n z.n
  have h3 := tcmp_tri x.s.data.toList y.s.data.toList z.s.data.toList
  have a1 := icmp_zero x.k y.k
  have a2 := icmp_zero y.k z.k
  have a3 := icmp_zero x.k z.k
  have b1 := icmp_zero x.n y.n
  have b2 := icmp_zero y.n z.n
  have b3 := icmp_zero x.n z.n
  unfold Tri at *
  unfold vcmp
  simp only [ne_eq]
  generalize icmp x.k y.k = p1 at *
  generalize icmp y.k z.k = p2 at *
  generalize icmp x.k z.k = p3 at *
  generalize icmp x.n y.n = q1 at *
  generalize icmp y.n z.n = q2 at *
  generalize icmp x.n z.n = q3 at *
  generalize tcmp x.s.data.toList y.s.data.toList = r1 at *
  generalize tcmp y.s.data.toList z.s.data.toList = r2 at *
  generalize tcmp x.s.data.toList z.s.data.toList = r3 at *
  intro g1 g2
  by_cases c1 : x.k = y.k <;> by_cases c2 : y.k = z.k <;> by_cases c3 : x.k = z.k <;> by_cases d1 : x.n = y.n <;> by_cases d2 : y.n = z.n <;> by_cases d3 : x.n = z.n <;> simp [c1, c2, c3, d1, d2, d3] at * <;> omega
end Go.Proofs.YtkigdglipoeaaaaDoor
