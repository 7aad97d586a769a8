/- Walks, and the least weights of walks. -/
import Derived.Test.YtbmofagaammgmaaDbq
namespace Go.Proofs.Ytbmofagaammgmaa
open Go.ChangeShapes Go.WideShapes Go.ChangeAt Go.RowKit Go.ChangeMaps

/-- A walk to j, in edges E i u c. -/
inductive Walk (E : Nat → Nat → Int → Prop) (j : Nat) : Nat → Int → Prop
  | nil : Walk E j j 0
  | cons {i u : Nat} {a c : Int} : E i u c → Walk E j u a → Walk E j i (a + c)
theorem Walk.sol {E : Nat → Nat → Int → Prop} {j : Nat} {s : Nat → Int} (hs : ∀ i u c, E i u c → s i - s u ≤ c) : ∀ {i : Nat} {a : Int}, Walk E j i a → s i - s j ≤ a
  | _, _, .nil => by omega
  | _, _, .cons he hw => by
    have h1 := hs _ _ _ he
    have h2 := Walk.sol hs hw
    omega
/-- F cannot be lowered, and reaches j at 0 or less. -/
structure Fix (E : Nat → Nat → Int → Prop) (j : Nat) (F : Nat → Option Int) : Prop where
  at_ : ∃ a, F j = some a ∧ a ≤ 0
  edge : ∀ i u c, E i u c → ∀ b, F u = some b → ∃ b', F i = some b' ∧ b' ≤ b + c
theorem Fix.walk {E : Nat → Nat → Int → Prop} {j : Nat} {F : Nat → Option Int} (h : Fix E j F) : ∀ {i : Nat} {a : Int}, Walk E j i a → ∃ b, F i = some b ∧ b ≤ a
  | _, _, .nil => h.at_
  | _, _, .cons he hw => by
    obtain ⟨b, hb, hl⟩ := Fix.walk h hw
    obtain ⟨b', hb', hl'⟩ := h.edge _ _ _ he b hb
    exact ⟨b', hb', by omega⟩
/-- Two that cannot be lowered, whose values are walks' weights, are one. -/
theorem fix_one {E E' : Nat → Nat → Int → Prop} {j : Nat} {F G : Nat → Option Int} (hF : Fix E j F) (hG : Fix E' j G) (wF : ∀ i a, F i = some a → Walk E j i a) (wG : ∀ i a, G i = some a → Walk E' j i a)
    (t1 : ∀ i u c, E i u c → ∃ c', E' i u c' ∧ c' ≤ c) (t2 : ∀ i u c, E' i u c → ∃ c', E i u c' ∧ c' ≤ c) : ∀ i, F i = G i := by
  have tr : ∀ {E E' : Nat → Nat → Int → Prop} (_ : ∀ i u c, E i u c → ∃ c', E' i u c' ∧ c' ≤ c) {i : Nat} {a : Int}, Walk E j i a → ∃ a', Walk E' j i a' ∧ a' ≤ a := by
    intro E E' t i a hw
    induction hw with
    | nil => exact ⟨0, .nil, Int.le_refl _⟩
    | cons he _ ih =>
      obtain ⟨a', hw', hl⟩ := ih
      obtain ⟨c', he', hc⟩ := t _ _ _ he
      exact ⟨_, .cons he' hw', by omega⟩
  intro i
  have h1 : ∀ a, F i = some a → ∃ b, G i = some b ∧ b ≤ a := fun a ha => by
    obtain ⟨a', hw, hl⟩ := tr t1 (wF i a ha)
    obtain ⟨b, hb, hl'⟩ := hG.walk hw
    exact ⟨b, hb, by omega⟩
  have h2 : ∀ a, G i = some a → ∃ b, F i = some b ∧ b ≤ a := fun a ha => by
    obtain ⟨a', hw, hl⟩ := tr t2 (wG i a ha)
    obtain ⟨b, hb, hl'⟩ := hF.walk hw
    exact ⟨b, hb, by omega⟩
  cases hf : F i with
  | none =>
    cases hg : G i with
    | none => rfl
    | some b =>
      obtain ⟨a, ha, -⟩ := h2 b hg
      rw [hf] at ha
      cases ha
  | some a =>
    obtain ⟨b, hb, hl⟩ := h1 a hf
    obtain ⟨a', ha', hl'⟩ := h2 b hb
    rw [hf] at ha'
    injection ha' with ha'
    rw [hb, show a = b by omega]
end Go.Proofs.Ytbmofagaammgmaa
