/- The bound that a constraint states. -/
import Derived.Test.YtbmofagaammgmaaSlc
namespace Go.Proofs.Ytbmofagaammgmaa
open Go.ChangeShapes Go.WideShapes Go.ChangeAt Go.RowKit Go.ChangeMaps

/-- The loop over the coefficients: variables and factors. -/
def ofL (n : Int) : List (Int × Int) → Int → Int → Option (Int × Int)
  | [], i, j => some (i, j)
  | x :: r, i, j => if x.1 < 0 ∨ x.1 ≥ n then none else if x.2 = 1 ∧ i = n then ofL n r x.1 j else if x.2 = -1 ∧ j = n then ofL n r i x.1 else none
def lim : Int := 1125899906842624
def ofM (C : List (Int × Int)) (k : Int) (eq : Bool) (n : Int) : Option (Int × Int × Int) :=
  if eq = true ∨ k < -lim ∨ k > lim then none else match ofL n C n n with
    | none => none
    | some p => if p.1 = p.2 then none else some (p.1, p.2, -k)
def badC (n : Int) (x : Int × Int) : Bool := decide (x.1 < 0) || decide (x.1 ≥ n) || (decide (x.2 ≠ 1) && decide (x.2 ≠ -1))
def rofM (C : List (Int × Int)) (k : Int) (eq : Bool) (n : Int) : Option (Int × Int × Int) :=
  if eq = true ∨ k < -lim ∨ k > lim ∨ C.length < 1 ∨ C.length > 2 then none else if C.any (badC n) then none else match C with
    | [x] => if x.2 = 1 then some (x.1, n, -k) else some (n, x.1, -k)
    | [x, y] => if x.2 = y.2 ∨ x.1 = y.1 then none else if x.2 = 1 then some (x.1, y.1, -k) else some (y.1, x.1, -k)
    | _ => none
theorem ofL_full {n : Int} {i j : Int} (hi : i < n) (hj : j < n) : ∀ (C : List (Int × Int)), C ≠ [] → ofL n C i j = none
  | [], h => absurd rfl h
  | x :: r, _ => by
    unfold ofL
    split
    · rfl
    · rw [if_neg (by omega), if_neg (by omega)]
theorem of_eq (C : List (Int × Int)) (k : Int) (eq : Bool) (n : Int) : ofM C k eq n = rofM C k eq n := by
  unfold ofM rofM
  by_cases h0 : eq = true ∨ k < -lim ∨ k > lim
  · rw [if_pos h0, if_pos (by rcases h0 with h | h | h <;> simp [h])]
  rw [if_neg h0]
  match C with
  | [] => simp [ofL]
  | [x] =>
    rw [if_neg (by simpa using h0)]
    simp only [List.any_cons, List.any_nil, Bool.or_false, badC]
    unfold ofL ofL
    by_cases h1 : x.1 < 0 ∨ x.1 ≥ n
    · rw [if_pos h1, if_pos (by rcases h1 with h | h <;> simp [h])]
    · rw [if_neg h1]
      by_cases h2 : x.2 = 1
      · rw [if_pos ⟨h2, rfl⟩, if_neg (by simp [h2]; omega), if_pos h2]
        dsimp only
        rw [if_neg (by omega)]
      · rw [if_neg (fun h => h2 h.1)]
        by_cases h3 : x.2 = -1
        · rw [if_pos ⟨h3, rfl⟩, if_neg (by simp [h3]; omega), if_neg h2]
          dsimp only
          rw [if_neg (by omega)]
        · rw [if_neg (fun h => h3 h.1), if_pos (by simp [h2, h3])]
  | [x, y] =>
    rw [if_neg (by simpa using h0)]
    simp only [List.any_cons, List.any_nil, Bool.or_false, badC]
    have o1 : ofL n [x, y] n n = if x.1 < 0 ∨ x.1 ≥ n then none else if x.2 = 1 ∧ n = n then ofL n [y] x.1 n else if x.2 = -1 ∧ n = n then ofL n [y] n x.1 else none := rfl
    have o2 : ∀ i j, ofL n [y] i j = if y.1 < 0 ∨ y.1 ≥ n then none else if y.2 = 1 ∧ i = n then some (y.1, j) else if y.2 = -1 ∧ j = n then some (i, y.1) else none := fun i j => rfl
    rw [o1]
    by_cases h1 : x.1 < 0 ∨ x.1 ≥ n
    · rw [if_pos h1, if_pos (by rcases h1 with h | h <;> simp [h])]
    · rw [if_neg h1]
      have h1a : ¬ x.1 < 0 := fun h => h1 (.inl h)
      have h1b : ¬ x.1 ≥ n := fun h => h1 (.inr h)
      by_cases h2 : x.2 = 1
      · rw [if_pos ⟨h2, rfl⟩, o2]
        by_cases g1 : y.1 < 0 ∨ y.1 ≥ n
        · rw [if_pos g1, if_pos (by rcases g1 with h | h <;> simp [h])]
        · rw [if_neg g1, if_neg (by omega)]
          have g1a : ¬ y.1 < 0 := fun h => g1 (.inl h)
          have g1b : ¬ y.1 ≥ n := fun h => g1 (.inr h)
          by_cases g3 : y.2 = -1
          · rw [if_pos ⟨g3, rfl⟩, if_neg (by simp [h2, g3, h1a, g1a]; omega)]
            dsimp only
            by_cases e : x.1 = y.1
            · rw [if_pos e, if_pos (.inr e)]
            · rw [if_neg e, if_neg (by omega), if_pos h2]
          · rw [if_neg (fun h => g3 h.1)]
            by_cases g2 : y.2 = 1
            · rw [if_pos (show x.2 = y.2 ∨ x.1 = y.1 from .inl (by omega))]
              dsimp only
              rw [ite_self]
            · rw [if_pos (by simp [g2, g3])]
      · rw [if_neg (fun h => h2 h.1)]
        by_cases h3 : x.2 = -1
        · rw [if_pos ⟨h3, rfl⟩, o2]
          by_cases g1 : y.1 < 0 ∨ y.1 ≥ n
          · rw [if_pos g1, if_pos (by rcases g1 with h | h <;> simp [h])]
          · rw [if_neg g1]
            have g1a : ¬ y.1 < 0 := fun h => g1 (.inl h)
            have g1b : ¬ y.1 ≥ n := fun h => g1 (.inr h)
            by_cases g2 : y.2 = 1
            · rw [if_pos ⟨g2, rfl⟩, if_neg (by simp [h3, g2, h1a, g1a]; omega)]
              dsimp only
              by_cases e : y.1 = x.1
              · rw [if_pos e, if_pos (.inr e.symm)]
              · rw [if_neg e, if_neg (by omega), if_neg h2]
            · rw [if_neg (fun h => g2 h.1), if_neg (by omega)]
              by_cases g3 : y.2 = -1
              · rw [if_pos (show x.2 = y.2 ∨ x.1 = y.1 from .inl (by omega))]
                dsimp only
                rw [ite_self]
              · rw [if_pos (by simp [g2, g3])]
        · rw [if_neg (fun h => h3 h.1), if_pos (by simp [h2, h3])]
  | x :: y :: z :: r =>
    rw [if_pos (by simp)]
    have : ofL n (x :: y :: z :: r) n n = none := by
      unfold ofL
      split
      · rfl
      split
      · unfold ofL
        split
        · rfl
        rw [if_neg (by omega)]
        split
        · exact ofL_full (by omega) (by omega) _ (by simp)
        · rfl
      split
      · unfold ofL
        split
        · rfl
        split
        · exact ofL_full (by omega) (by omega) _ (by simp)
        · rw [if_neg (by omega)]
      · rfl
    rw [this]
end Go.Proofs.Ytbmofagaammgmaa
